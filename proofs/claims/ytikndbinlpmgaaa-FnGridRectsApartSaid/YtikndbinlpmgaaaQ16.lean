import Derived.Test.YtikndbinlpmgaaaQ15
section
namespace Go.Proofs.Ytikndbinlpmgaaa
open Go.RowKit
set_option linter.unusedVariables false
set_option maxHeartbeats 1000000
attribute [local go_sem 5000] run_mx run_mn
attribute [local go_sem] growUpon_value growUpon_skip growUpon_enter
attribute [local go_sem] givesUpon_value givesUpon_skip givesUpon_enter
def revals : List Re → List Value
  | [] => []
  | r :: t => valsRe r ++ revals t
theorem revals_append (A B : List Re) : revals (A ++ B) = revals A ++ revals B := by
  induction A with
  | nil => rfl
  | cons r t ih => simp [revals, ih]
theorem revals_succ {M : List Re} {k : Nat} {r : Re} (h : M[k]? = some r) : revals (M.take k) ++ valsRe r = revals (M.take (k + 1)) := by
  rw [List.take_add_one, h, Option.toList, revals_append]; simp [revals]
theorem revals_get : ∀ {M : List Re} {i : Nat} {r : Re}, M[i]? = some r → ∀ j, j < 4 → (revals M)[i * 4 + j]? = (valsRe r)[j]?
  | [], i, r, h, _, _ => by simp at h
  | q :: t, 0, r, h, j, hj => by
    simp at h; subst h
    show (valsRe q ++ revals t)[0 * 4 + j]? = _
    rw [List.getElem?_append_left (by simp [valsRe]; omega)]; simp
  | q :: t, i + 1, r, h, j, hj => by
    show (valsRe q ++ revals t)[(i + 1) * 4 + j]? = _
    rw [List.getElem?_append_right (by simp [valsRe]; omega)]
    have := revals_get (M := t) (i := i) (r := r) (by simpa using h) j hj
    rw [← this]; congr 1; simp [valsRe]; omega
theorem ReR.own {w : World} {base n : Nat} {v : Value} {M : List Re} {T : TypeId} (h : w.ownsRow base T 4 v n (revals M)) (hn : n = M.length) : ReR w v M := by
  subst hn
  have hl := h.lt
  have hc := fun g hg => h.cells (g := g) hg
  rcases h.2 with ⟨rfl, h0⟩ | ⟨g, cap, cur, rfl, _⟩
  · exact ⟨none, 0, by rw [h0], ⟨fun h => absurd h (by omega)⟩⟩
  · refine ⟨_, cap, rfl, ⟨fun _ => ⟨g, 0, rfl, (hl g rfl).2, fun i r hr => ?_⟩⟩⟩
    have e : ∀ j, j < 4 → ∀ u, (valsRe r)[j]? = some u → w.cell? ⟨g, 0 + i * 4 + j, none⟩ = some u := fun j hj u hu => by
      have h1 := hc g rfl (i * 4 + j) u ((revals_get hr j hj).trans hu)
      have hadd : (⟨g, 0, none⟩ : Addr).add (i * 4 + j) = ⟨g, i * 4 + j, none⟩ := by unfold Addr.add; split <;> simp_all
      rw [hadd] at h1
      rwa [Nat.zero_add]
    exact ⟨e 0 (by omega) _ rfl, e 1 (by omega) _ rfl, e 2 (by omega) _ rfl, e 3 (by omega) _ rfl⟩
theorem rect_infoN : ∃ (i : TypeInfo) (z : Value), Try.prog.info? 35 = some i ∧ i.zero = some z ∧ i.size = 4 ∧ i.bytes = 32 ∧ z.cells.size = 4 := by
  have hinfo : (Try.prog.info? 35).map (fun i => (i.zero, i.size, i.bytes)) = some (some (.agg #[.int .i64 0, .int .i64 0, .int .i64 0, .int .i64 0]), 4, 32) := by kernel_rfl
  obtain ⟨i, hi, h1, h2, h3⟩ := info_parts hinfo
  exact ⟨i, _, hi, h1, h2, h3, rfl⟩
theorem newRe4 (W : World) (r : Re) (T : TypeId) : ∀ (j : Nat) (u : Value), (valsRe r)[j]? = some u → (W.alloc (.cells #[.int .i64 r.x, .int .i64 r.y, .int .i64 r.u, .int .i64 r.v] T)).cell? ((⟨W.heap.size, 0, none⟩ : Addr).add j) = some u := fun j u h => by
  have hadd : (⟨W.heap.size, 0, none⟩ : Addr).add j = ⟨W.heap.size, j, none⟩ := by unfold Addr.add; split <;> simp_all
  rw [hadd]
  exact (cellS (newS W _) j).trans (by simpa [valsRe] using h)
theorem valsRe_one (r : Re) : ∀ u ∈ valsRe r, u.oneCell' = true := by intro u hu; simp [valsRe] at hu; rcases hu with rfl | rfl | rfl | rfl <;> rfl
set_option maxRecDepth 100000 in
theorem sinset_g (x y u v p q : Int) (w : World) (h : ((0 ≤ x ∧ x ≤ 4000) ∧ (0 ≤ y ∧ y ≤ 4000)) ∧ ((0 ≤ u ∧ u ≤ 4000) ∧ (0 ≤ v ∧ v ≤ 4000))) (hp : 0 ≤ p ∧ p ≤ 10) (hq : 0 ≤ q ∧ q ≤ 10) : Calls Try.prog 73 #[.agg #[.int .i64 (x), .int .i64 (y), .int .i64 (u), .int .i64 (v)], .int .i64 p, .int .i64 q] w fun e w' => e = .returned (.agg #[.int .i64 (x + mn p (u / 2)), .int .i64 (y + mn q (v / 2)), .int .i64 (mx (u - 2 * p) 0), .int .i64 (mx (v - 2 * q) 0)]) ∧ Below w.heap.size w w' := by
  have hbd := ins_bd (a := ⟨x, y, u, v⟩) h hp hq
  dsimp only at hbd
  obtain ⟨⟨⟨m1, m2⟩, m3, m4⟩, ⟨m5, m6⟩, m7, m8⟩ := hbd
  obtain ⟨⟨⟨a1, a2⟩, ⟨a3, a4⟩⟩, ⟨a5, a6⟩, ⟨a7, a8⟩⟩ := h
  obtain ⟨b1, b2⟩ := hp
  obtain ⟨b3, b4⟩ := hq
  rw [mx_comm (u - 2 * p) 0, mx_comm (v - 2 * q) 0] at *
  go_enter Try.func73, Try.ntmps73
  go_wp2
  exact bodyPost_ret (v := .agg #[.int .i64 (x + mn p (u / 2)), .int .i64 (y + mn q (v / 2)), .int .i64 (mx 0 (u - 2 * p)), .int .i64 (mx 0 (v - 2 * q))]) (by simp only [results, Try.results73]; go_simp) rfl ⟨rfl, (by repeat (first | with_reducible exact Below.refl _ _ | with_reducible assumption | with_reducible refine balloc ?_ | (with_reducible refine bset ?_ ?_; rotate_left; ((try dsimp only); omega)) | refine bkeep2 ?_ (by assumption) | with_reducible refine Below.drew ?_))⟩
theorem sinset_r (a b : Re) (p q : Int) (w : World) (h : BdR a) (hp : 0 ≤ p ∧ p ≤ 10) (hq : 0 ≤ q ∧ q ≤ 10) (hb : insR a p q = b) : Calls Try.prog 73 #[.agg #[.int .i64 a.x, .int .i64 a.y, .int .i64 a.u, .int .i64 a.v], .int .i64 p, .int .i64 q] w fun e w' => e = .returned (.agg #[.int .i64 b.x, .int .i64 b.y, .int .i64 b.u, .int .i64 b.v]) ∧ Below w.heap.size w w' := by
  subst hb; exact sinset_g _ _ _ _ _ _ w h hp hq
theorem sstuck_v (x room wish s t : Int) (lo hi : Bool) (w : World) (hx : 0 ≤ x ∧ x ≤ 4010) (hr : 0 ≤ room ∧ room ≤ 4000) (hw : 0 ≤ wish ∧ wish ≤ 30) (hs : stkS x room wish lo hi = (s, t)) : Calls Try.prog 74 #[.int .i64 x, .int .i64 room, .int .i64 wish, .bool lo, .bool hi] w fun e w' => e = .returned (.tuple #[.int .i64 s, .int .i64 t]) ∧ w = w' := by
  have hm := mn_spec wish room
  have m1 : 0 ≤ mn wish room := by omega
  have m2 : mn wish room ≤ 30 := by omega
  have m3 : mn wish room ≤ room := by omega
  clear hm
  obtain ⟨hx0, hx1⟩ := hx
  obtain ⟨hr0, hr1⟩ := hr
  cases lo <;> cases hi
  all_goals
    simp [stkS] at hs
    obtain ⟨rfl, rfl⟩ := hs
    go_enter Try.func74, Try.ntmps74
    go_wp2
    refine bodyPost_ret (by simp only [results, Try.results74]; go_simp) rfl ⟨rfl, rfl⟩
theorem NV.takeN {w : World} {g : Nat} {L : List Int} (h : NV w (some ⟨g, 0, none⟩) L) (k : Nat) : NV w (some ⟨g, 0, none⟩) (L.take k) := by
  refine ⟨fun h0 => ?_⟩
  obtain ⟨b, off, e, hb, hp⟩ := h.cells (by rw [List.length_take] at h0; omega)
  cases e
  exact ⟨g, 0, rfl, hb, fun i x hx => hp i x (by rw [List.getElem?_take] at hx; split at hx; exact hx; cases hx)⟩
theorem NV.segN {w : World} {g : Nat} {L : List Int} (h : NV w (some ⟨g, 0, none⟩) L) (a m : Nat) : NV w (some ⟨g, a, none⟩) (segI L a m) := by
  refine ⟨fun h0 => ?_⟩
  obtain ⟨b, off, e, hb, hp⟩ := h.cells (by have : 0 < (segI L a m).length := h0; rw [segI, List.length_take, List.length_drop] at this; omega)
  cases e
  refine ⟨g, a, rfl, hb, fun i x hx => ?_⟩
  rw [segI, List.getElem?_take] at hx
  split at hx
  · rw [List.getElem?_drop] at hx
    have := hp (a + i) x hx
    rwa [Nat.zero_add] at this
  · cases hx
/-- a slice from a block's beginning that reads as these sizes -/
def NRo (w : World) (v : Value) (n : Nat) (L : List Int) : Prop := ∃ g c, v = .slice (some ⟨g, 0, none⟩) n c ∧ n ≤ c ∧ NV w (some ⟨g, 0, none⟩) L
theorem NRo.keep {w w' : World} {v : Value} {n : Nat} {L : List Int} (h : NRo w v n L) (hb : Below w.heap.size w w') : NRo w' v n L := let ⟨A, c, e, q, n⟩ := h; ⟨A, c, e, q, n.keep hb⟩
theorem tot_z (g o n c : Nat) (L : List Int) (W : World) (h : NV W (some ⟨g, o, none⟩) L) (hn : n = L.length) (hM : Smal 1000000000 L) (h5 : n ≤ 5) : ∀ w', Below W.heap.size W w' → Calls Try.prog 72 #[.slice (some ⟨g, o, none⟩) n c] w' fun e w'' => e = .returned (.int .i64 (sumI L)) ∧ Gr w' w'' :=
  fun w' hb => total_b _ c n L w' (h.keep hb) hn (by omega) hM
set_option maxRecDepth 100000 in
theorem gridded_v (A1 : Option Addr) (c1 : Nat) (L1 : List Ln) (A2 : Option Addr) (c2 : Nat) (L2 : List Ln) (A3 : Option Addr) (c3 : Nat) (L3 : List Ce) (u v : Int) (w : World) (h1 : LnV w A1 L1) (h2 : LnV w A2 L2) (h3 : CeV w A3 L3) (hg : gridB L1 L2 L3 = true) (hu : rgG u v = true) (q1 : L1.length ≤ c1) (q2 : L2.length ≤ c2) :
    Calls Try.prog 36 #[.agg #[.slice A1 L1.length c1, .slice A2 L2.length c2, .slice A3 L3.length c3], .agg #[.int .i64 (0), .int .i64 (0), .int .i64 (u), .int .i64 (v)]] w fun e w' => (∃ x, e = .returned x ∧ ReR w' x (L3.map (cellR (sizedM L1 (L3.map acM) u) (sizedM L2 (L3.map dnM) v)))) ∧ Below w.heap.size w w' := by
  obtain ⟨ti, tz, ti1, ti2, ti3, ti4, ti5⟩ := rect_infoN
  have gf := GF.of hg
  obtain ⟨⟨u0, u1⟩, ⟨v0, v1⟩⟩ := rgG_yes hu
  have hl8 := gf.hl8
  have n1 := gf.n1
  have n2 := gf.n2
  have hz1 := SzB.of gf.v1 gf.s1 u0 u1
  have hz2 := SzB.of gf.v2 gf.s2 v0 v1
  have l1 := sizedM_len (room := u) gf.v1 gf.s1
  have l2 := sizedM_len (room := v) gf.v2 gf.s2
  have HF := Lib.hid gf
  have HFT := Lib.hid (fit_of hg l1 l2)
  have HZ1 := Lib.hid hz1
  have HZ2 := Lib.hid hz2
  have HL1 := Lib.hid l1
  have HL2 := Lib.hid l2
  obtain ⟨S1, hS1⟩ : ∃ S, (sizedM L1 (L3.map acM) u) = S := ⟨_, rfl⟩
  obtain ⟨S2, hS2⟩ : ∃ S, (sizedM L2 (L3.map dnM) v) = S := ⟨_, rfl⟩
  have HLL1 := Lib.hid l1
  have HLL2 := Lib.hid l2
  rw [hS1] at HFT HZ1 HL1
  rw [hS2] at HFT HZ2 HL2
  rw [hS1, hS2]
  have HE1 := Lib.hid hS1
  have HE2 := Lib.hid hS2
  clear hS1 hS2
  have hB0 : Below w.heap.size w ((w.alloc (.cells #[.slice A1 L1.length c1, .slice A2 L2.length c2, .slice A3 L3.length c3] 26 (0, 0))).alloc (.cells #[.int .i64 0, .int .i64 0, .int .i64 u, .int .i64 v] 35 (0, 0))) := balloc (balloc (Below.refl _ _))
  have HX := Lib.hid ((Below.heap_alloc (w.alloc (.cells #[.slice A1 L1.length c1, .slice A2 L2.length c2, .slice A3 L3.length c3] 26 (0, 0))) (.cells #[.int .i64 0, .int .i64 0, .int .i64 u, .int .i64 v] 35 (0, 0)) w.heap.size (by simp)).trans (newS w (.cells #[.slice A1 L1.length c1, .slice A2 L2.length c2, .slice A3 L3.length c3] 26 (0, 0))))
  have hy := newS (w.alloc (.cells #[.slice A1 L1.length c1, .slice A2 L2.length c2, .slice A3 L3.length c3] 26 (0, 0))) (.cells #[.int .i64 0, .int .i64 0, .int .i64 u, .int .i64 v] 35 (0, 0))
  rw [World.size_alloc] at hy
  have HY := Lib.hid hy
  have HV1 := Lib.hid (h1.keep hB0)
  have HV2 := Lib.hid (h2.keep hB0)
  have HV3 := Lib.hid (h3.keep hB0)
  have HB := Lib.hid hB0
  clear hB0 h1 h2 h3 gf hg hu hy hz1 hz2 l1 l2
  go_enter Try.func36, Try.ntmps36
  go_upto_region 1 with (fail)
  refine wp_genGG (fun W => W.heap[w.heap.size]? = some (.cells #[.slice A1 L1.length c1, .slice A2 L2.length c2, .slice A3 L3.length c3] 26 (0, 0)) ∧ W.heap[w.heap.size + 1]? = some (.cells #[.int .i64 0, .int .i64 0, .int .i64 u, .int .i64 v] 35 (0, 0)) ∧ LnV W A1 L1 ∧ LnV W A2 L2 ∧ CeV W A3 L3 ∧ Below w.heap.size w W) ⟨HX.out, HY.out, HV1.out, HV2.out, HV3.out, HB.out⟩ (fun w0 h0 => ?_)
  clear HX HY HV1 HV2 HV3 HB
  obtain ⟨hx, hy, h1, h2, h3, hb0⟩ := h0
  have HX := Lib.hid hx
  have HY := Lib.hid hy
  have HV1 := Lib.hid h1
  have HV2 := Lib.hid h2
  have HV3 := Lib.hid h3
  have HB := Lib.hid hb0
  clear hx hy h1 h2 h3 hb0
  have d0 := cellS HX.out 0
  have d1 := cellS HX.out 1
  have d2 := cellS HX.out 2
  have y2 := cellS HY.out 2
  have lx := ltS HX.out
  have ly := ltS HY.out
  go_wp2_with fail
  refine wp_region_rx (XV (.pointer (some ⟨w.heap.size, 0, none⟩)) :: XV (.slice A1 L1.length c1) :: XV (.pointer (some ⟨w.heap.size, 0, none⟩)) :: XV (.slice A1 L1.length c1) :: XV (.agg #[.slice A1 L1.length c1, .slice A2 L2.length c2, .slice A3 L3.length c3]) :: (fun z9 w => SpR w z9 (L3.map acM)) :: (fun z9 w => NRz w z9 L1.length (wishM L1 (L3.map acM))) :: XV (.pointer (some ⟨w.heap.size + 1, 2, none⟩)) :: XV (.int .i64 u) :: (fun z9 w => NRo w z9 L1.length (sizedM L1 (L3.map acM) u)) :: (fun z9 w => NRo w z9 L1.length (sizedM L1 (L3.map acM) u)) :: []) (by kernel_rfl) (by kernel_rfl) ?hTs ?hops ?hfin
  case hTs =>
    intro T hT
    simp only [List.mem_cons, List.not_mem_nil, or_false] at hT
    rcases hT with rfl | rfl | rfl | rfl | rfl | rfl | rfl | rfl | rfl | rfl | rfl <;> first | exact stay_V _ | exact stay_T | exact stay_of (fun v a b x g => x.keep g) | exact stay_of (fun v a b x g => x)
  case hops =>
    refine ⟨opOK_rx [(2, none)] (by kernel_rfl) rfl ?_, ?_⟩
    · intro act w' hw' h1
      have hk : ∀ v, act.eval (.const v) = v := fun _ => rfl
      have hf : ∀ f, act.eval (.func f) = .func (.func f) #[] #[] := fun _ => rfl
      generalize act.eval = ρ at *
      replace h1 : ρ (.tmp 2) = .pointer (some ⟨w.heap.size, 0, none⟩) := h1
      refine gx_gen (fun K hK => ?_)
      obtain ⟨hc, hf'⟩ := bcell (bdrewn hw'.out)
      go_simp
      exact hK _ _ ⟨rfl, Gr.refl _⟩
    refine ⟨opOK_rx [(16, some 0)] (by kernel_rfl) rfl ?_, ?_⟩
    · intro act w' hw' h1
      have hk : ∀ v, act.eval (.const v) = v := fun _ => rfl
      have hf : ∀ f, act.eval (.func f) = .func (.func f) #[] #[] := fun _ => rfl
      generalize act.eval = ρ at *
      replace h1 : ρ (.tmp 16) = .pointer (some ⟨w.heap.size, 0, none⟩) := h1
      refine gx_gen (fun K hK => ?_)
      obtain ⟨hc, hf'⟩ := bcell (bdrewn hw'.out)
      go_simp
      exact hK _ _ ⟨rfl, Gr.refl _⟩
    refine ⟨opOK_rx [(2, none)] (by kernel_rfl) rfl ?_, ?_⟩
    · intro act w' hw' h1
      have hk : ∀ v, act.eval (.const v) = v := fun _ => rfl
      have hf : ∀ f, act.eval (.func f) = .func (.func f) #[] #[] := fun _ => rfl
      generalize act.eval = ρ at *
      replace h1 : ρ (.tmp 2) = .pointer (some ⟨w.heap.size, 0, none⟩) := h1
      refine gx_gen (fun K hK => ?_)
      obtain ⟨hc, hf'⟩ := bcell (bdrewn hw'.out)
      go_simp
      exact hK _ _ ⟨rfl, Gr.refl _⟩
    refine ⟨opOK_rx [(18, some 2)] (by kernel_rfl) rfl ?_, ?_⟩
    · intro act w' hw' h1
      have hk : ∀ v, act.eval (.const v) = v := fun _ => rfl
      have hf : ∀ f, act.eval (.func f) = .func (.func f) #[] #[] := fun _ => rfl
      generalize act.eval = ρ at *
      replace h1 : ρ (.tmp 18) = .pointer (some ⟨w.heap.size, 0, none⟩) := h1
      refine gx_gen (fun K hK => ?_)
      obtain ⟨hc, hf'⟩ := bcell (bdrewn hw'.out)
      go_simp
      exact hK _ _ ⟨rfl, Gr.refl _⟩
    refine ⟨opOK_rx [(2, none)] (by kernel_rfl) rfl ?_, ?_⟩
    · intro act w' hw' h1
      have hk : ∀ v, act.eval (.const v) = v := fun _ => rfl
      have hf : ∀ f, act.eval (.func f) = .func (.func f) #[] #[] := fun _ => rfl
      generalize act.eval = ρ at *
      replace h1 : ρ (.tmp 2) = .pointer (some ⟨w.heap.size, 0, none⟩) := h1
      refine gx_gen (fun K hK => ?_)
      obtain ⟨hc, hf'⟩ := bcell (bdrewn hw'.out)
      go_simp
      exact hK _ _ ⟨rfl, Gr.refl _⟩
    refine ⟨opOK_rx [(20, some 4)] (by kernel_rfl) rfl ?_, ?_⟩
    · intro act w' hw' h1
      have hk : ∀ v, act.eval (.const v) = v := fun _ => rfl
      have hf : ∀ f, act.eval (.func f) = .func (.func f) #[] #[] := fun _ => rfl
      generalize act.eval = ρ at *
      replace h1 : ρ (.tmp 20) = .agg #[.slice A1 L1.length c1, .slice A2 L2.length c2, .slice A3 L3.length c3] := h1
      refine gx_gen (fun K hK => ?_)
      obtain ⟨hc, hf'⟩ := bcell (bdrewn hw'.out)
      go_simp
      (with_reducible refine (colSpans_v A1 A2 A3 c1 L1.length c2 L2.length c3 L3 _ (HV3.out.keep (bdrewn hw'.out)) hl8 HF.out.hsm).mono ?_); rintro e w1 ⟨⟨z, rfl, hr1⟩, hb1⟩; exact ⟨_, rfl, hK _ _ ⟨hr1, hb1⟩⟩
    refine ⟨opOK_rx [(19, some 3), (21, some 5)] (by kernel_rfl) rfl ?_, ?_⟩
    · intro act w' hw' h1 h2
      have hk : ∀ v, act.eval (.const v) = v := fun _ => rfl
      have hf : ∀ f, act.eval (.func f) = .func (.func f) #[] #[] := fun _ => rfl
      generalize act.eval = ρ at *
      replace h1 : ρ (.tmp 19) = .slice A1 L1.length c1 := h1
      replace h2 : (fun z9 w => SpR w z9 (L3.map acM)) (ρ (.tmp 21)) w' := h2
      refine gx_gen (fun K hK => ?_)
      obtain ⟨hc, hf'⟩ := bcell (bdrewn hw'.out)
      go_simp
      obtain ⟨A, c, e, hs⟩ := h2; rw [e]; (with_reducible refine (wished_v A1 c1 L1 A c (L3.map acM) _ (HV1.out.keep (bdrewn hw'.out)) HF.out.v1 hs HF.out.s1 q1).mono ?_); rintro e w1 ⟨⟨g, cap, rfl, _, hr1⟩, hb1⟩; exact ⟨_, rfl, hK _ _ ⟨⟨_, _, rfl, hr1.nv⟩, hb1⟩⟩
    refine ⟨opOK_rx [(3, none)] (by kernel_rfl) rfl ?_, ?_⟩
    · intro act w' hw' h1
      have hk : ∀ v, act.eval (.const v) = v := fun _ => rfl
      have hf : ∀ f, act.eval (.func f) = .func (.func f) #[] #[] := fun _ => rfl
      generalize act.eval = ρ at *
      replace h1 : ρ (.tmp 3) = .pointer (some ⟨w.heap.size + 1, 0, none⟩) := h1
      refine gx_gen (fun K hK => ?_)
      obtain ⟨hc, hf'⟩ := bcell (bdrewn hw'.out)
      go_simp
      exact hK _ _ ⟨rfl, Gr.refl _⟩
    refine ⟨opOK_rx [(23, some 7)] (by kernel_rfl) rfl ?_, ?_⟩
    · intro act w' hw' h1
      have hk : ∀ v, act.eval (.const v) = v := fun _ => rfl
      have hf : ∀ f, act.eval (.func f) = .func (.func f) #[] #[] := fun _ => rfl
      generalize act.eval = ρ at *
      replace h1 : ρ (.tmp 23) = .pointer (some ⟨w.heap.size + 1, 2, none⟩) := h1
      refine gx_gen (fun K hK => ?_)
      obtain ⟨hc, hf'⟩ := bcell (bdrewn hw'.out)
      go_simp
      exact hK _ _ ⟨rfl, Gr.refl _⟩
    refine ⟨opOK_rx [(17, some 1), (22, some 6), (24, some 8)] (by kernel_rfl) rfl ?_, ?_⟩
    · intro act w' hw' h1 h2 h3
      have hk : ∀ v, act.eval (.const v) = v := fun _ => rfl
      have hf : ∀ f, act.eval (.func f) = .func (.func f) #[] #[] := fun _ => rfl
      generalize act.eval = ρ at *
      replace h1 : ρ (.tmp 17) = .slice A1 L1.length c1 := h1
      replace h2 : (fun z9 w => NRz w z9 L1.length (wishM L1 (L3.map acM))) (ρ (.tmp 22)) w' := h2
      replace h3 : ρ (.tmp 24) = .int .i64 u := h3
      refine gx_gen (fun K hK => ?_)
      obtain ⟨hc, hf'⟩ := bcell (bdrewn hw'.out)
      go_simp
      obtain ⟨A, c, e, hs⟩ := h2; rw [e]; (with_reducible refine (sized_v A c L1.length _ A1 c1 L1 u _ hs (wish_ok HF.out.v1 HF.out.s1).2.1.symm (HV1.out.keep (bdrewn hw'.out)) HF.out.v1 (wish_ok HF.out.v1 HF.out.s1).1 (wish_ok HF.out.v1 HF.out.s1).2.2.1 (wish_ok HF.out.v1 HF.out.s1).2.2.2.1 (wish_ok HF.out.v1 HF.out.s1).2.2.2.2 u0 u1).mono ?_); rintro e w1 ⟨⟨g, cap, rfl, _, hr1⟩, hb1⟩; exact ⟨_, rfl, hK _ _ ⟨⟨g, cap, rfl, Nat.le_trans (Nat.le_of_eq HLL1.out.symm) hr1.1, hr1.nv⟩, hb1⟩⟩
    refine ⟨opOK_rx [(25, some 9)] (by kernel_rfl) rfl ?_, ?_⟩
    · intro act w' hw' h1
      have hk : ∀ v, act.eval (.const v) = v := fun _ => rfl
      have hf : ∀ f, act.eval (.func f) = .func (.func f) #[] #[] := fun _ => rfl
      generalize act.eval = ρ at *
      replace h1 : (fun z9 w => NRo w z9 L1.length (sizedM L1 (L3.map acM) u)) (ρ (.tmp 25)) w' := h1
      refine gx_gen (fun K hK => ?_)
      obtain ⟨hc, hf'⟩ := bcell (bdrewn hw'.out)
      go_simp
      exact hK _ _ ⟨h1, Gr.refl _⟩
    exact trivial
  case hfin =>
    intro w1 hg1
    intro v16 t16
    replace t16 : v16 = .pointer (some ⟨w.heap.size, 0, none⟩) := t16
    subst t16
    intro v17 t17
    replace t17 : v17 = .slice A1 L1.length c1 := t17
    subst t17
    intro v18 t18
    replace t18 : v18 = .pointer (some ⟨w.heap.size, 0, none⟩) := t18
    subst t18
    intro v19 t19
    replace t19 : v19 = .slice A1 L1.length c1 := t19
    subst t19
    intro v20 t20
    replace t20 : v20 = .agg #[.slice A1 L1.length c1, .slice A2 L2.length c2, .slice A3 L3.length c3] := t20
    subst t20
    intro v21 t21
    replace t21 : (fun z9 w => SpR w z9 (L3.map acM)) v21 w1 := t21
    intro v22 t22
    replace t22 : (fun z9 w => NRz w z9 L1.length (wishM L1 (L3.map acM))) v22 w1 := t22
    intro v23 t23
    replace t23 : v23 = .pointer (some ⟨w.heap.size + 1, 2, none⟩) := t23
    subst t23
    intro v24 t24
    replace t24 : v24 = .int .i64 u := t24
    subst t24
    intro v25 t25
    replace t25 : (fun z9 w => NRo w z9 L1.length (sizedM L1 (L3.map acM) u)) v25 w1 := t25
    intro v5 t5
    replace t5 : (fun z9 w => NRo w z9 L1.length (sizedM L1 (L3.map acM) u)) v5 w1 := t5
    have hb1 := bdrewn hg1.out
    clear hg1
    simp only [finP, Act.put, List.setIfInBounds_toArray, List.set_cons_succ, List.set_cons_zero]
    obtain ⟨g1, e1, rfl, he1, hn1⟩ := t5
    clear t21 t22 t25 d0 d1 d2 y2 lx ly
    replace HX := Lib.hid ((hb1.block _ (Array.getElem?_eq_some_iff.1 HX.out).1).trans HX.out)
    replace HY := Lib.hid ((hb1.block _ (Array.getElem?_eq_some_iff.1 HY.out).1).trans HY.out)
    replace HV1 := Lib.hid (HV1.out.keep hb1)
    replace HV2 := Lib.hid (HV2.out.keep hb1)
    replace HV3 := Lib.hid (HV3.out.keep hb1)
    replace HB := Lib.hid (bkeep2 HB.out hb1)
    clear hb1
    have HN1 := Lib.hid hn1
    clear hn1
    have d0 := cellS HX.out 0
    have d1 := cellS HX.out 1
    have d2 := cellS HX.out 2
    have y3 := cellS HY.out 3
    have lx := ltS HX.out
    have ly := ltS HY.out
    go_wp2_with fail
    refine wp_region_rx (XV (.pointer (some ⟨w.heap.size, 1, none⟩)) :: XV (.slice A2 L2.length c2) :: XV (.pointer (some ⟨w.heap.size, 1, none⟩)) :: XV (.slice A2 L2.length c2) :: XV (.agg #[.slice A1 L1.length c1, .slice A2 L2.length c2, .slice A3 L3.length c3]) :: (fun z9 w => SpR w z9 (L3.map dnM)) :: (fun z9 w => NRz w z9 L2.length (wishM L2 (L3.map dnM))) :: XV (.pointer (some ⟨w.heap.size + 1, 3, none⟩)) :: XV (.int .i64 v) :: (fun z9 w => NRo w z9 L2.length (sizedM L2 (L3.map dnM) v)) :: (fun z9 w => NRo w z9 L2.length (sizedM L2 (L3.map dnM) v)) :: []) (by kernel_rfl) (by kernel_rfl) ?hTs ?hops ?hfin
    case hTs =>
      intro T hT
      simp only [List.mem_cons, List.not_mem_nil, or_false] at hT
      rcases hT with rfl | rfl | rfl | rfl | rfl | rfl | rfl | rfl | rfl | rfl | rfl <;> first | exact stay_V _ | exact stay_T | exact stay_of (fun v a b x g => x.keep g) | exact stay_of (fun v a b x g => x)
    case hops =>
      refine ⟨opOK_rx [(2, none)] (by kernel_rfl) rfl ?_, ?_⟩
      · intro act w' hw' h1
        have hk : ∀ v, act.eval (.const v) = v := fun _ => rfl
        have hf : ∀ f, act.eval (.func f) = .func (.func f) #[] #[] := fun _ => rfl
        generalize act.eval = ρ at *
        replace h1 : ρ (.tmp 2) = .pointer (some ⟨w.heap.size, 0, none⟩) := h1
        refine gx_gen (fun K hK => ?_)
        obtain ⟨hc, hf'⟩ := bcell (bdrewn hw'.out)
        go_simp
        exact hK _ _ ⟨rfl, Gr.refl _⟩
      refine ⟨opOK_rx [(26, some 0)] (by kernel_rfl) rfl ?_, ?_⟩
      · intro act w' hw' h1
        have hk : ∀ v, act.eval (.const v) = v := fun _ => rfl
        have hf : ∀ f, act.eval (.func f) = .func (.func f) #[] #[] := fun _ => rfl
        generalize act.eval = ρ at *
        replace h1 : ρ (.tmp 26) = .pointer (some ⟨w.heap.size, 1, none⟩) := h1
        refine gx_gen (fun K hK => ?_)
        obtain ⟨hc, hf'⟩ := bcell (bdrewn hw'.out)
        go_simp
        exact hK _ _ ⟨rfl, Gr.refl _⟩
      refine ⟨opOK_rx [(2, none)] (by kernel_rfl) rfl ?_, ?_⟩
      · intro act w' hw' h1
        have hk : ∀ v, act.eval (.const v) = v := fun _ => rfl
        have hf : ∀ f, act.eval (.func f) = .func (.func f) #[] #[] := fun _ => rfl
        generalize act.eval = ρ at *
        replace h1 : ρ (.tmp 2) = .pointer (some ⟨w.heap.size, 0, none⟩) := h1
        refine gx_gen (fun K hK => ?_)
        obtain ⟨hc, hf'⟩ := bcell (bdrewn hw'.out)
        go_simp
        exact hK _ _ ⟨rfl, Gr.refl _⟩
      refine ⟨opOK_rx [(28, some 2)] (by kernel_rfl) rfl ?_, ?_⟩
      · intro act w' hw' h1
        have hk : ∀ v, act.eval (.const v) = v := fun _ => rfl
        have hf : ∀ f, act.eval (.func f) = .func (.func f) #[] #[] := fun _ => rfl
        generalize act.eval = ρ at *
        replace h1 : ρ (.tmp 28) = .pointer (some ⟨w.heap.size, 1, none⟩) := h1
        refine gx_gen (fun K hK => ?_)
        obtain ⟨hc, hf'⟩ := bcell (bdrewn hw'.out)
        go_simp
        exact hK _ _ ⟨rfl, Gr.refl _⟩
      refine ⟨opOK_rx [(2, none)] (by kernel_rfl) rfl ?_, ?_⟩
      · intro act w' hw' h1
        have hk : ∀ v, act.eval (.const v) = v := fun _ => rfl
        have hf : ∀ f, act.eval (.func f) = .func (.func f) #[] #[] := fun _ => rfl
        generalize act.eval = ρ at *
        replace h1 : ρ (.tmp 2) = .pointer (some ⟨w.heap.size, 0, none⟩) := h1
        refine gx_gen (fun K hK => ?_)
        obtain ⟨hc, hf'⟩ := bcell (bdrewn hw'.out)
        go_simp
        exact hK _ _ ⟨rfl, Gr.refl _⟩
      refine ⟨opOK_rx [(30, some 4)] (by kernel_rfl) rfl ?_, ?_⟩
      · intro act w' hw' h1
        have hk : ∀ v, act.eval (.const v) = v := fun _ => rfl
        have hf : ∀ f, act.eval (.func f) = .func (.func f) #[] #[] := fun _ => rfl
        generalize act.eval = ρ at *
        replace h1 : ρ (.tmp 30) = .agg #[.slice A1 L1.length c1, .slice A2 L2.length c2, .slice A3 L3.length c3] := h1
        refine gx_gen (fun K hK => ?_)
        obtain ⟨hc, hf'⟩ := bcell (bdrewn hw'.out)
        go_simp
        (with_reducible refine (rowSpans_v A1 A2 A3 c1 L1.length c2 L2.length c3 L3 _ (HV3.out.keep (bdrewn hw'.out)) hl8 HF.out.hsm).mono ?_); rintro e w1 ⟨⟨z, rfl, hr1⟩, hb1⟩; exact ⟨_, rfl, hK _ _ ⟨hr1, hb1⟩⟩
      refine ⟨opOK_rx [(29, some 3), (31, some 5)] (by kernel_rfl) rfl ?_, ?_⟩
      · intro act w' hw' h1 h2
        have hk : ∀ v, act.eval (.const v) = v := fun _ => rfl
        have hf : ∀ f, act.eval (.func f) = .func (.func f) #[] #[] := fun _ => rfl
        generalize act.eval = ρ at *
        replace h1 : ρ (.tmp 29) = .slice A2 L2.length c2 := h1
        replace h2 : (fun z9 w => SpR w z9 (L3.map dnM)) (ρ (.tmp 31)) w' := h2
        refine gx_gen (fun K hK => ?_)
        obtain ⟨hc, hf'⟩ := bcell (bdrewn hw'.out)
        go_simp
        obtain ⟨A, c, e, hs⟩ := h2; rw [e]; (with_reducible refine (wished_v A2 c2 L2 A c (L3.map dnM) _ (HV2.out.keep (bdrewn hw'.out)) HF.out.v2 hs HF.out.s2 q2).mono ?_); rintro e w1 ⟨⟨g, cap, rfl, _, hr1⟩, hb1⟩; exact ⟨_, rfl, hK _ _ ⟨⟨_, _, rfl, hr1.nv⟩, hb1⟩⟩
      refine ⟨opOK_rx [(3, none)] (by kernel_rfl) rfl ?_, ?_⟩
      · intro act w' hw' h1
        have hk : ∀ v, act.eval (.const v) = v := fun _ => rfl
        have hf : ∀ f, act.eval (.func f) = .func (.func f) #[] #[] := fun _ => rfl
        generalize act.eval = ρ at *
        replace h1 : ρ (.tmp 3) = .pointer (some ⟨w.heap.size + 1, 0, none⟩) := h1
        refine gx_gen (fun K hK => ?_)
        obtain ⟨hc, hf'⟩ := bcell (bdrewn hw'.out)
        go_simp
        exact hK _ _ ⟨rfl, Gr.refl _⟩
      refine ⟨opOK_rx [(33, some 7)] (by kernel_rfl) rfl ?_, ?_⟩
      · intro act w' hw' h1
        have hk : ∀ v, act.eval (.const v) = v := fun _ => rfl
        have hf : ∀ f, act.eval (.func f) = .func (.func f) #[] #[] := fun _ => rfl
        generalize act.eval = ρ at *
        replace h1 : ρ (.tmp 33) = .pointer (some ⟨w.heap.size + 1, 3, none⟩) := h1
        refine gx_gen (fun K hK => ?_)
        obtain ⟨hc, hf'⟩ := bcell (bdrewn hw'.out)
        go_simp
        exact hK _ _ ⟨rfl, Gr.refl _⟩
      refine ⟨opOK_rx [(27, some 1), (32, some 6), (34, some 8)] (by kernel_rfl) rfl ?_, ?_⟩
      · intro act w' hw' h1 h2 h3
        have hk : ∀ v, act.eval (.const v) = v := fun _ => rfl
        have hf : ∀ f, act.eval (.func f) = .func (.func f) #[] #[] := fun _ => rfl
        generalize act.eval = ρ at *
        replace h1 : ρ (.tmp 27) = .slice A2 L2.length c2 := h1
        replace h2 : (fun z9 w => NRz w z9 L2.length (wishM L2 (L3.map dnM))) (ρ (.tmp 32)) w' := h2
        replace h3 : ρ (.tmp 34) = .int .i64 v := h3
        refine gx_gen (fun K hK => ?_)
        obtain ⟨hc, hf'⟩ := bcell (bdrewn hw'.out)
        go_simp
        obtain ⟨A, c, e, hs⟩ := h2; rw [e]; (with_reducible refine (sized_v A c L2.length _ A2 c2 L2 v _ hs (wish_ok HF.out.v2 HF.out.s2).2.1.symm (HV2.out.keep (bdrewn hw'.out)) HF.out.v2 (wish_ok HF.out.v2 HF.out.s2).1 (wish_ok HF.out.v2 HF.out.s2).2.2.1 (wish_ok HF.out.v2 HF.out.s2).2.2.2.1 (wish_ok HF.out.v2 HF.out.s2).2.2.2.2 v0 v1).mono ?_); rintro e w1 ⟨⟨g, cap, rfl, _, hr1⟩, hb1⟩; exact ⟨_, rfl, hK _ _ ⟨⟨g, cap, rfl, Nat.le_trans (Nat.le_of_eq HLL2.out.symm) hr1.1, hr1.nv⟩, hb1⟩⟩
      refine ⟨opOK_rx [(35, some 9)] (by kernel_rfl) rfl ?_, ?_⟩
      · intro act w' hw' h1
        have hk : ∀ v, act.eval (.const v) = v := fun _ => rfl
        have hf : ∀ f, act.eval (.func f) = .func (.func f) #[] #[] := fun _ => rfl
        generalize act.eval = ρ at *
        replace h1 : (fun z9 w => NRo w z9 L2.length (sizedM L2 (L3.map dnM) v)) (ρ (.tmp 35)) w' := h1
        refine gx_gen (fun K hK => ?_)
        obtain ⟨hc, hf'⟩ := bcell (bdrewn hw'.out)
        go_simp
        exact hK _ _ ⟨h1, Gr.refl _⟩
      exact trivial
    case hfin =>
      intro w2 hg2
      intro v26 t26
      replace t26 : v26 = .pointer (some ⟨w.heap.size, 1, none⟩) := t26
      subst t26
      intro v27 t27
      replace t27 : v27 = .slice A2 L2.length c2 := t27
      subst t27
      intro v28 t28
      replace t28 : v28 = .pointer (some ⟨w.heap.size, 1, none⟩) := t28
      subst t28
      intro v29 t29
      replace t29 : v29 = .slice A2 L2.length c2 := t29
      subst t29
      intro v30 t30
      replace t30 : v30 = .agg #[.slice A1 L1.length c1, .slice A2 L2.length c2, .slice A3 L3.length c3] := t30
      subst t30
      intro v31 t31
      replace t31 : (fun z9 w => SpR w z9 (L3.map dnM)) v31 w2 := t31
      intro v32 t32
      replace t32 : (fun z9 w => NRz w z9 L2.length (wishM L2 (L3.map dnM))) v32 w2 := t32
      intro v33 t33
      replace t33 : v33 = .pointer (some ⟨w.heap.size + 1, 3, none⟩) := t33
      subst t33
      intro v34 t34
      replace t34 : v34 = .int .i64 v := t34
      subst t34
      intro v35 t35
      replace t35 : (fun z9 w => NRo w z9 L2.length (sizedM L2 (L3.map dnM) v)) v35 w2 := t35
      intro v6 t6
      replace t6 : (fun z9 w => NRo w z9 L2.length (sizedM L2 (L3.map dnM) v)) v6 w2 := t6
      have hb2 := bdrewn hg2.out
      clear hg2
      simp only [finP, Act.put, List.setIfInBounds_toArray, List.set_cons_succ, List.set_cons_zero]
      obtain ⟨g2, e2, rfl, he2, hn2⟩ := t6
      clear t31 t32 t35 d0 d1 d2 y3 lx ly
      replace HX := Lib.hid ((hb2.block _ (Array.getElem?_eq_some_iff.1 HX.out).1).trans HX.out)
      replace HY := Lib.hid ((hb2.block _ (Array.getElem?_eq_some_iff.1 HY.out).1).trans HY.out)
      replace HV1 := Lib.hid (HV1.out.keep hb2)
      replace HV2 := Lib.hid (HV2.out.keep hb2)
      replace HV3 := Lib.hid (HV3.out.keep hb2)
      replace HN1 := Lib.hid (HN1.out.keep hb2)
      replace HB := Lib.hid (bkeep2 HB.out hb2)
      clear hb2
      have HN2 := Lib.hid hn2
      clear hn2
      have ho0 := World.ownsRow_lit (base := w2.heap.size) (e := 35) (size := 4) w2 #[] 0 (Nat.le_refl _) (by decide) rfl
      have HO := Lib.hid (show (w2.alloc (.cells #[] 35 (0, 0))).ownsRow w2.heap.size 35 4 (.slice (some ⟨w2.heap.size, 0, none⟩) 0 0) 0 (revals []) from ho0)
      clear ho0
      have hs2 := HB.out.size
      have lx := ltS HX.out
      have ly := ltS HY.out
      replace HN1 := Lib.hid (show NV _ _ S1 by rw [← HE1.out]; exact HN1.out)
      replace HN2 := Lib.hid (show NV _ _ S2 by rw [← HE2.out]; exact HN2.out)
      go_wp2_with fail
      go_loopw [7, 8] (fun out i wr => ∃ k : Nat, k ≤ L3.length ∧ i = .int .i64 k ∧ wr.ownsRow w2.heap.size 35 4 out k (revals ((L3.map (cellR S1 S2)).take k)) ∧ Below w2.heap.size w2 wr) (fun _ i _ => L3.length - (intOf i).toNat)
      case atStart => exact ⟨0, by omega, rfl, HO.out, balloc (Below.refl _ _)⟩
      case round =>
        obtain ⟨k, hk, rfl, ho, hBr⟩ := hrel
        clear HO
        have hsr := hBr.size
        have xg := (hBr.block _ lx).trans HX.out
        have d2 := cellS xg 2
        by_cases hlt : k < L3.length
        · have hd : decide ((k : Int) < (L3.length : Int)) = true := by simpa using hlt
          obtain ⟨b, off, rfl, hb, hp⟩ := (HV3.out.keep hBr).cells (by omega)
          have hget : L3[k]? = some L3[k] := List.getElem?_eq_getElem hlt
          have hft : fitC S1 S2 L3[k] := HFT.out _ (List.getElem_mem hlt)
          have hcs := hp k _ hget
          have hts := revals_succ (show (L3.map (cellR S1 S2))[k]? = some (cellR S1 S2 L3[k]) by rw [List.getElem?_map, hget]; rfl)
          generalize L3[k] = p at *
          obtain ⟨co, ro, mc, mr, cw, ch, sk, px, py⟩ := p
          obtain ⟨⟨hcw, hch, hpx, hpy⟩, hsk, ⟨h3, h4, h5, h6⟩, h7, h8⟩ := hft
          dsimp only at h3 h4 h5 h6 h7 h8 hcw hch hpx hpy hsk hcs
          obtain ⟨k1, rfl⟩ := Int.eq_ofNat_of_zero_le h3
          obtain ⟨k2, rfl⟩ := Int.eq_ofNat_of_zero_le h4
          obtain ⟨m1, rfl⟩ := Int.eq_ofNat_of_zero_le (show 0 ≤ mc by omega)
          obtain ⟨m2, rfl⟩ := Int.eq_ofNat_of_zero_le (show 0 ≤ mr by omega)
          obtain ⟨s0, s1, s2, s3, s4, s5, s6, s7, s8⟩ := hcs
          have hob := ho.lt
          have HO := Lib.hid ho
          have HTS := Lib.hid hts
          have HBR := Lib.hid hBr
          have h7' : k1 + m1 ≤ S1.length := by omega
          have h8' : k2 + m2 ≤ S2.length := by omega
          have HBD := Lib.hid (area_bd HZ1.out HZ2.out ⟨k1, k2, m1, m2, cw, ch, sk, px, py⟩)
          clear ho hts hBr hp hget h7 h8 h3 h4
          go_upto_region 8 with (fail)
          refine wp_genGG (fun W => W.heap[wr.heap.size]? = some (.cells #[.int .i64 k1, .int .i64 k2, .int .i64 m1, .int .i64 m2, .int .i64 cw, .int .i64 ch, .int .i64 sk, .int .i64 px, .int .i64 py] 37 (0, 0)) ∧ Below wr.heap.size wr W) ⟨newS _ _, balloc (Below.refl _ _)⟩ (fun W hW => ?_)
          clear s0 s1 s2 s3 s4 s5 s6 s7 s8 d2
          obtain ⟨hc0, hbW⟩ := hW
          have hsW := hbW.size
          have hyW := (hbW.block _ (by omega)).trans ((HBR.out.block _ ly).trans HY.out)
          have x0 := cellS hc0 0
          have x1 := cellS hc0 1
          have x2 := cellS hc0 2
          have x3 := cellS hc0 3
          have y0 := cellS hyW 0
          have y1 := cellS hyW 1
          have HB2 := Lib.hid (bkeep2 HBR.out hbW)
          have n1W := HN1.out.keep HB2.out
          have n2W := HN2.out.keep HB2.out
          have g1l : S1.length ≤ e1 := by have := HL1.out; omega
          have g2l : S2.length ≤ e2 := by have := HL2.out; omega
          have T1 := Lib.hid (tot_z g1 0 k1 e1 (S1.take k1) W (n1W.takeN k1) (by rw [List.length_take]; omega) (HZ1.out.takesmal k1) (by have := HZ1.out.2.2; omega))
          have T2 := Lib.hid (tot_z g2 0 k2 e2 (S2.take k2) W (n2W.takeN k2) (by rw [List.length_take]; omega) (HZ2.out.takesmal k2) (by have := HZ2.out.2.2; omega))
          have T3 := Lib.hid (tot_z g1 k1 m1 (e1 - k1) (segI S1 k1 m1) W (n1W.segN k1 m1) (segI_len h7').symm (HZ1.out.segsmal k1 m1) (by have := HZ1.out.2.2; omega))
          have T4 := Lib.hid (tot_z g2 k2 m2 (e2 - k2) (segI S2 k2 m2) W (n2W.segN k2 m2) (segI_len h8').symm (HZ2.out.segsmal k2 m2) (by have := HZ2.out.2.2; omega))
          have z5 := HZ1.out.2.2
          have z6 := HZ2.out.2.2
          have j1 : k1 ≤ e1 := by omega
          have j2 : k2 ≤ e2 := by omega
          have j3 : k1 + m1 ≤ e1 := by omega
          have j4 : k2 + m2 ≤ e2 := by omega
          have j5 : (0 : Int) ≤ (k1 : Int) + (m1 : Int) := by omega
          have j6 : (k1 : Int) + (m1 : Int) ≤ (e1 : Int) := by omega
          have j7 : ((k1 : Int) + (m1 : Int)).toNat = k1 + m1 := by omega
          have j8 : (0 : Int) ≤ (k2 : Int) + (m2 : Int) := by omega
          have j9 : (k2 : Int) + (m2 : Int) ≤ (e2 : Int) := by omega
          have j10 : ((k2 : Int) + (m2 : Int)).toNat = k2 + m2 := by omega
          have j11 : ¬ e1 = k1 := by omega
          have j12 : ¬ e2 = k2 := by omega
          have w1 : IntKind.i64.wrap ((k1 : Int) + (m1 : Int)) = (k1 : Int) + (m1 : Int) := IntWalk.i64_in _ (by omega)
          have w2 : IntKind.i64.wrap ((k2 : Int) + (m2 : Int)) = (k2 : Int) + (m2 : Int) := IntWalk.i64_in _ (by omega)
          have HR := Lib.hid (show areaR S1 S2 ⟨k1, k2, m1, m2, cw, ch, sk, px, py⟩ = ⟨sumI (S1.take k1), sumI (S2.take k2), sumI (segI S1 k1 m1), sumI (segI S2 k2 m2)⟩ from by simp only [areaR, Int.toNat_natCast])
          clear n1W n2W
          obtain ⟨l, hl⟩ : ∃ z, sumI (S1.take k1) = z := ⟨_, rfl⟩
          obtain ⟨t, ht⟩ : ∃ z, sumI (S2.take k2) = z := ⟨_, rfl⟩
          obtain ⟨r, hr⟩ : ∃ z, sumI (segI S1 k1 m1) = z := ⟨_, rfl⟩
          obtain ⟨q, hq⟩ : ∃ z, sumI (segI S2 k2 m2) = z := ⟨_, rfl⟩
          rw [hl] at T1 HR
          rw [ht] at T2 HR
          rw [hr] at T3 HR
          rw [hq] at T4 HR
          clear hl ht hr hq
          have p1 : IntKind.i64.wrap l = l := by exact IntWalk.i64_in _ (by have := HBD.out; rw [HR.out] at this; have h := this.1.1; dsimp only at h; omega)
          have p2 : IntKind.i64.wrap t = t := by exact IntWalk.i64_in _ (by have := HBD.out; rw [HR.out] at this; have h := this.1.2; dsimp only at h; omega)
          have lxW := ltS hc0
          have lyW := ltS hyW
          go_wp2_with fail
          refine wp_named (fun W1 e1 => ?_)
          replace e1 := Lib.hid e1
          refine wp_region_grow 37 2 (· < 38) (by kernel_rfl) (by kernel_rfl) rfl ?_
          iterate 37 (refine wpG_step (fun K hK => ?_); apply Exists.intro; refine ⟨.inl ⟨rfl, fun w' hw' => ?_⟩, ?_⟩; (focus ((obtain ⟨hc, hf⟩ := bcell hw'.out); (have hcS := bcellS hw'.out); go_simp <;> first | rfl | (go_at_call 72; with_reducible first | exact T1.out _ (bdrewn hw'.out) | exact T2.out _ (bdrewn hw'.out) | exact T3.out _ (bdrewn hw'.out) | exact T4.out _ (bdrewn hw'.out)))); (go_simp; refine hK _ ?_; clear hK K))
          refine wpG_nil ?_
          refine wpK_one (i := 37) (by kernel_rfl) rfl rfl (by kernel_rfl) (fun w1_0 h1_0 => ?_)
          go_simp
          refine ⟨Gr.alloc _ _, ?_⟩
          refine wpK_tail (by kernel_rfl) (fun w1_9 h1_9 => ?_)
          obtain ⟨hc1_9, hf1_9⟩ := bcell h1_9.out
          refine wpAny_one (i := 38) (by kernel_rfl) rfl rfl ?_
          go_simp
          refine wpAny_end (by kernel_rfl) ?_
          have s1_a : W1.heap.size ≤ w1_9.heap.size := by rw [e1.out]; exact Nat.le_trans h1_0.out.size (Nat.le_trans (by simp) h1_9.out.size)
          have s1_b : W1.heap.size ≤ w1_0.heap.size := by rw [e1.out]; exact h1_0.out.size
          have s1_c : w1_0.heap.size < w1_9.heap.size := by have := h1_9.out.size; simp at this; omega
          have b1_a : Below W1.heap.size W1 w1_9 := by rw [e1.out]; exact bgrow (balloc (bgrow (Below.refl _ _).drew h1_0)) h1_9
          refine NoPan.gen (fun wf => Below W1.heap.size W1 wf ∧ W1.heap.size ≤ w1_0.heap.size ∧ w1_0.heap.size < wf.heap.size ∧ wf.cell? ⟨w1_0.heap.size, 0, none⟩ = some (.int .i64 l) ∧ wf.frozen? ⟨w1_0.heap.size, 0, none⟩ = false ∧ wf.cell? ⟨w1_0.heap.size, 1, none⟩ = some (.int .i64 t) ∧ wf.frozen? ⟨w1_0.heap.size, 1, none⟩ = false ∧ wf.cell? ⟨w1_0.heap.size, 2, none⟩ = some (.int .i64 r) ∧ wf.frozen? ⟨w1_0.heap.size, 2, none⟩ = false ∧ wf.cell? ⟨w1_0.heap.size, 3, none⟩ = some (.int .i64 q) ∧ wf.frozen? ⟨w1_0.heap.size, 3, none⟩ = false) ?_ (fun wf1 hwf1 => ?_)
          · refine ⟨by repeat (first | exact b1_a | (refine bset ?_ ?_; rotate_left; ((try dsimp only); omega))), ?_⟩
            refine ⟨s1_b, ?_⟩
            refine ⟨by simp; omega, ?_⟩
            go_simp
          generalize hgb1 : w1_0.heap.size = b1 at *
          have E := e1.out
          subst E
          obtain ⟨hB1, hl1, hu1, c1_0, f1_0, c1_1, f1_1, c1_2, f1_2, c1_3, f1_3⟩ := hwf1
          try simp only [World.size_alloc] at hl1
          clear hgb1 e1 hc1_9 hf1_9 s1_a s1_b s1_c b1_a h1_9 w1_9 h1_0 w1_0
          obtain ⟨hc1, hf1⟩ := bcell hB1
          have hcB := (hB1.block _ lxW).trans hc0
          have HBf := Lib.hid (bkeep2 HB2.out hB1)
          replace HO := Lib.hid (own_belowN (own_belowN HO.out hbW) hB1)
          have hsf := hB1.size
          have x7 := cellS hcB 7
          have x8 := cellS hcB 8
          have lxf := ltS hcB
          have HCB := Lib.hid hcB
          obtain ⟨b4, hb4⟩ : ∃ z, insR ⟨l, t, r, q⟩ px py = z := ⟨_, rfl⟩
          have hbd := HBD.out
          rw [HR.out] at hbd
          have hb4b : ((0 ≤ b4.x ∧ b4.x ≤ 4010) ∧ (0 ≤ b4.y ∧ b4.y ≤ 4010)) ∧ ((0 ≤ b4.u ∧ b4.u ≤ 4000) ∧ (0 ≤ b4.v ∧ b4.v ≤ 4000)) := by
            have hins := ins_bd hbd hpx hpy
            obtain ⟨⟨i1, i2⟩, i3, i4⟩ := hins
            obtain ⟨⟨a1, a2⟩, a3, a4⟩ := hbd
            rw [← hb4]
            simp only [insR] at *
            omega
          obtain ⟨⟨s1, t1⟩, hst1⟩ : ∃ z, stkS b4.x b4.u cw (sk % 2 == 1) (sk / 2 % 2 == 1) = z := ⟨_, rfl⟩
          obtain ⟨⟨s2, t2⟩, hst2⟩ : ∃ z, stkS b4.y b4.v ch (sk / 4 % 2 == 1) (sk / 8 == 1) = z := ⟨_, rfl⟩
          have hcr : cellR S1 S2 ⟨k1, k2, m1, m2, cw, ch, sk, px, py⟩ = ⟨s1, s2, t1, t2⟩ := by
            have e1 : stkS b4.x b4.u cw (decide (sk % 2 = 1)) (decide (sk / 2 % 2 = 1)) = (s1, t1) := hst1
            have e2 : stkS b4.y b4.v ch (decide (sk / 4 % 2 = 1)) (decide (sk / 8 = 1)) = (s2, t2) := hst2
            unfold cellR
            rw [HR.out]
            dsimp only
            rw [hb4, e1, e2]
          rw [hcr] at HTS
          have HBD4 := Lib.hid hbd
          have HB4 := Lib.hid hb4
          have HST1 := Lib.hid hst1
          have HST2 := Lib.hid hst2
          have HBB4 := Lib.hid hb4b
          clear hcB hb4 hbd hb4b hst1 hst2 hcr p1 p2 w1 w2 j1 j2 j3 j4 j5 j6 j7 j8 j9 j10 j11 j12 T1 T2 T3 T4 x0 x1 x2 x3 y0 y1 hc0 hyW hbW hB1 HBD HB2 hc1 hf1 g1l g2l h7' h8' z5 z6 HBR
          go_wp2_with fail
          refine (sinset_r ⟨l, t, r, q⟩ b4 px py _ HBD4.out hpx hpy HB4.out).mono ?_
          rintro e w5 ⟨rfl, hb5⟩
          have HCB5 := Lib.hid ((hb5.block _ lxf).trans HCB.out)
          have HB5 := Lib.hid (bkeep2 HBf.out hb5)
          have HO5 := Lib.hid (own_belowN HO.out hb5)
          have hs5 := hb5.size
          clear hb5 x7 x8 c1_0 c1_1 c1_2 c1_3 f1_0 f1_1 f1_2 f1_3 HCB HBf HO
          go_upto_region 10 with (fail)
          refine wp_genGG (fun W => W.heap[wr.heap.size]? = some (.cells #[.int .i64 k1, .int .i64 k2, .int .i64 m1, .int .i64 m2, .int .i64 cw, .int .i64 ch, .int .i64 sk, .int .i64 px, .int .i64 py] 37 (0, 0)) ∧ W.heap[w5.heap.size]? = some (.cells #[.int .i64 b4.x, .int .i64 b4.y, .int .i64 b4.u, .int .i64 b4.v] 35 (0, 0)) ∧ W.ownsRow w2.heap.size 35 4 u7 k (revals ((L3.map (cellR S1 S2)).take k)) ∧ Below w2.heap.size w2 W ∧ wr.heap.size ≤ W.heap.size) ⟨(Below.heap_alloc _ _ _ (by omega)).trans HCB5.out, newS _ _, HO5.out.alloc _, balloc HB5.out, by simp; omega⟩ (fun W6 h6 => ?_)
          clear HCB5 HB5 HO5
          obtain ⟨hcx, hin, ho6, hb6, hs6⟩ := h6
          have x4 := cellS hcx 4
          have x5 := cellS hcx 5
          have x6 := cellS hcx 6
          have i0 := cellS hin 0
          have i1 := cellS hin 1
          have i2 := cellS hin 2
          have i3 := cellS hin 3
          have lxc := ltS hcx
          have lin := ltS hin
          obtain ⟨hsk0, hsk1⟩ := hsk
          have hob6 := ho6.lt
          have HO6 := Lib.hid ho6
          have HB6 := Lib.hid hb6
          clear hcx hin ho6 hb6 hob
          go_wp2_with fail
          refine (sstuck_v b4.x b4.u cw s1 t1 _ _ _ HBB4.out.1.1 HBB4.out.2.1 hcw HST1.out).mono ?_
          rintro e w7 ⟨rfl, rfl⟩
          go_wp2_with fail
          refine (sstuck_v b4.y b4.v ch s2 t2 _ _ _ HBB4.out.1.2 HBB4.out.2.2 hch HST2.out).mono ?_
          rintro e w7 ⟨rfl, rfl⟩
          clear x4 x5 x6 i0 i1 i2 i3
          go_wp2_with (at_builtin; refine wpList_append_own _ rfl _ _ 29 rfl w2.heap.size 35 ti tz 4 32 Try.underlying29 ti1 ti2 ti3 ti4 ti5 (by decide) _ _ _ rfl (HO6.out.alloc _) ⟨W6.heap.size, 0, none⟩ 1 1 (valsRe ⟨s1, s2, t1, t2⟩) rfl rfl (newRe4 _ ⟨s1, s2, t1, t2⟩ _) (valsRe_one _) (by simp only [maxLen]; omega) (by omega) (by simp; omega) ?_)
          intro v5 w8 how5 hgr5 _
          rw [HTS.out] at how5
          replace HB6 := Lib.hid (below_own HB6.out hgr5 hob6 (Nat.le_refl _) (Nat.le_refl _))
          replace HO6 := Lib.hid how5
          clear how5 hgr5 hob6
          go_wp2
          go_roundw
          case rel => exact ⟨k + 1, by omega, by go_num, by simpa using HO6.out, HB6.out⟩
          case measure => simp [intOf]; omega
        · have hd : decide ((k : Int) < (L3.length : Int)) = false := decide_eq_false (by omega)
          obtain rfl : k = L3.length := by omega
          have he : (L3.map (cellR S1 S2)).take L3.length = L3.map (cellR S1 S2) := List.take_of_length_le (by simp)
          rw [he] at ho
          have HR := Lib.hid (ReR.own ho (by simp))
          have HBR := Lib.hid (HB.out.trans (hBr.mono hs2))
          clear ho hBr he xg
          go_wp2
          go_ret
          exact ⟨⟨_, rfl, HR.out⟩, HBR.out⟩
set_option maxRecDepth 100000 in
theorem sGridRects_v (A1 : Option Addr) (c1 : Nat) (L1 : List Ln) (A2 : Option Addr) (c2 : Nat) (L2 : List Ln) (A3 : Option Addr) (c3 : Nat) (L3 : List Ce) (u v : Int) (w : World) (h1 : LnV w A1 L1) (h2 : LnV w A2 L2) (h3 : CeV w A3 L3) (k1 : L1.length ≤ 1048576) (k2 : L2.length ≤ 1048576) (k3 : L3.length ≤ 1048576) (q1 : L1.length ≤ c1) (q2 : L2.length ≤ c2) :
    Calls Try.prog 12 #[.agg #[.slice A1 L1.length c1, .slice A2 L2.length c2, .slice A3 L3.length c3], .int .i64 u, .int .i64 v] w fun e w' => (∃ x, e = .returned x ∧ ReR w' x (grM L1 L2 L3 u v)) ∧ Below w.heap.size w w' := by
  have hB0 : Below w.heap.size w (w.alloc (.cells #[.slice A1 L1.length c1, .slice A2 L2.length c2, .slice A3 L3.length c3] 26 (0, 0))) := balloc (Below.refl _ _)
  have HX := Lib.hid (newS w (.cells #[.slice A1 L1.length c1, .slice A2 L2.length c2, .slice A3 L3.length c3] 26 (0, 0)))
  have HV1 := Lib.hid (h1.keep hB0)
  have HV2 := Lib.hid (h2.keep hB0)
  have HV3 := Lib.hid (h3.keep hB0)
  have HB := Lib.hid hB0
  clear hB0 h1 h2 h3
  cases ht : gridB L1 L2 L3
  · rw [show grM L1 L2 L3 u v = [] by simp [grM, ht]]
    go_enter Try.func12, Try.ntmps12
    go_wp2_with fail
    with_reducible refine (svalidGrid_v A1 c1 L1 A2 c2 L2 A3 c3 L3 false _ HV1.out HV2.out HV3.out k1 k2 k3 ht).mono ?_
    rintro e w1 ⟨rfl, hb⟩
    replace HX := Lib.hid ((hb.block _ (Array.getElem?_eq_some_iff.1 HX.out).1).trans HX.out)
    replace HB := Lib.hid (bkeep2 HB.out hb)
    clear hb
    clear ht
    go_wp2
    go_ret
    exact ⟨⟨_, rfl, ⟨none, 0, rfl, ReV.nil _ _⟩⟩, HB.out⟩
  · cases hr : rgG u v
    · rw [show grM L1 L2 L3 u v = [] by simp [grM, hr]]
      go_enter Try.func12, Try.ntmps12
      go_wp2_with fail
      with_reducible refine (svalidGrid_v A1 c1 L1 A2 c2 L2 A3 c3 L3 true _ HV1.out HV2.out HV3.out k1 k2 k3 ht).mono ?_
      rintro e w1 ⟨rfl, hb⟩
      replace HX := Lib.hid ((hb.block _ (Array.getElem?_eq_some_iff.1 HX.out).1).trans HX.out)
      replace HB := Lib.hid (bkeep2 HB.out hb)
      clear hb
      clear ht
      go_wp2_with fail
      with_reducible refine (goodRoom_g u v _).mono ?_
      rintro e w2 ⟨rfl, rfl⟩
      rw [hr]
      clear hr
      go_wp2
      go_ret
      exact ⟨⟨_, rfl, ⟨none, 0, rfl, ReV.nil _ _⟩⟩, HB.out⟩
    · rw [show grM L1 L2 L3 u v = L3.map (cellR (sizedM L1 (L3.map acM) u) (sizedM L2 (L3.map dnM) v)) by simp [grM, ht, hr]]
      go_enter Try.func12, Try.ntmps12
      go_wp2_with fail
      with_reducible refine (svalidGrid_v A1 c1 L1 A2 c2 L2 A3 c3 L3 true _ HV1.out HV2.out HV3.out k1 k2 k3 ht).mono ?_
      rintro e w1 ⟨rfl, hb⟩
      replace HX := Lib.hid ((hb.block _ (Array.getElem?_eq_some_iff.1 HX.out).1).trans HX.out)
      replace HV1 := Lib.hid (HV1.out.keep hb)
      replace HV2 := Lib.hid (HV2.out.keep hb)
      replace HV3 := Lib.hid (HV3.out.keep hb)
      replace HB := Lib.hid (bkeep2 HB.out hb)
      clear hb
      have HT := Lib.hid ht
      clear ht
      go_wp2_with fail
      with_reducible refine (goodRoom_g u v _).mono ?_
      rintro e w2 ⟨rfl, rfl⟩
      rw [hr]
      have HR := Lib.hid hr
      clear hr
      have d0 := cellS HX.out 0
      have d1 := cellS HX.out 1
      have d2 := cellS HX.out 2
      have hsz := HB.out.size
      go_wp2_with fail
      with_reducible refine (gridded_v A1 c1 L1 A2 c2 L2 A3 c3 L3 u v _ HV1.out HV2.out HV3.out HT.out HR.out q1 q2).mono ?_
      rintro e w3 ⟨⟨z, rfl, hre⟩, hb⟩
      clear d0 d1 d2
      replace HX := Lib.hid ((hb.block _ (Array.getElem?_eq_some_iff.1 HX.out).1).trans HX.out)
      replace HB := Lib.hid (bkeep2 HB.out hb)
      clear hb
      have HRE := Lib.hid hre
      clear hre
      go_wp2
      go_ret
      exact ⟨⟨_, rfl, HRE.out⟩, HB.out⟩
end Go.Proofs.Ytikndbinlpmgaaa
end
section
set_option linter.unusedVariables false
namespace Go.Proofs.Ytikndbinlpmgaaa
/-- an item that is placed -/
structure Plc where
  x : Int
  y : Int
  rx : Int
  ry : Int
  ww : Int
  hh : Int
  qw : Int
  qh : Int
  an : Int
def shB (n : Int) : Bool := rng n (-300) 300
def reB (n : Int) : Bool := rng n 0 1000
def plB (p : Plc) : Bool := [p.x, p.y, p.ww, p.hh].all shB && ([p.rx, p.ry, p.qw, p.qh].all reB && rng p.an 0 8)
theorem plB_iff {p : Plc} : plB p = true ↔ ((-300 ≤ p.x ∧ p.x ≤ 300) ∧ (-300 ≤ p.y ∧ p.y ≤ 300) ∧ (0 ≤ p.rx ∧ p.rx ≤ 1000) ∧ (0 ≤ p.ry ∧ p.ry ≤ 1000) ∧ (-300 ≤ p.ww ∧ p.ww ≤ 300) ∧ (-300 ≤ p.hh ∧ p.hh ≤ 300) ∧ (0 ≤ p.qw ∧ p.qw ≤ 1000) ∧ (0 ≤ p.qh ∧ p.qh ≤ 1000) ∧ (0 ≤ p.an ∧ p.an ≤ 8)) := by
  simp only [plB, shB, reB, List.all_cons, List.all_nil, Bool.and_true, Bool.and_eq_true, rng_iff]
  omega
/-- so many thousandths -/
def thM (m s : Int) : Int := m * s / 1000
theorem th_prod {m s : Int} (h1 : 0 ≤ m) (h2 : m ≤ 1000) (h3 : 0 ≤ s) (h4 : s ≤ 400) : 0 ≤ m * s ∧ m * s ≤ 400000 := by
  refine ⟨Int.mul_nonneg h1 h3, ?_⟩
  have e1 : m * s ≤ 1000 * s := Int.mul_le_mul_of_nonneg_right h2 h3
  omega
theorem th_bd {m s : Int} (h1 : 0 ≤ m) (h2 : m ≤ 1000) (h3 : 0 ≤ s) (h4 : s ≤ 400) : 0 ≤ thM m s ∧ thM m s ≤ 400 := by
  have := th_prod h1 h2 h3 h4
  unfold thM; omega
theorem th_zero (s : Int) : thM 0 s = 0 := by simp [thM]
/-- the sizes and the place -/
def wM (p : Plc) (w : Int) : Int := mx (p.ww + thM p.qw w) 0
def hM (p : Plc) (h : Int) : Int := mx (p.hh + thM p.qh h) 0
def xM (p : Plc) (w : Int) : Int := p.x + thM p.rx w - wM p w * (p.an % 3) / 2
def yM (p : Plc) (h : Int) : Int := p.y + thM p.ry h - hM p h * (p.an / 3) / 2
def rqB (w h : Int) : Bool := rng w 0 400 && rng h 0 400
theorem rqB_iff {w h : Int} : rqB w h = true ↔ ((0 ≤ w ∧ w ≤ 400) ∧ (0 ≤ h ∧ h ≤ 400)) := by simp only [rqB, Bool.and_eq_true, rng_iff]
def prB (p : Plc) (w h : Int) : Bool := plB p && rqB w h
theorem half_bd {s k : Int} (h1 : 0 ≤ s) (h2 : s ≤ 700) (h3 : 0 ≤ k) (h4 : k ≤ 2) : 0 ≤ s * k ∧ s * k ≤ 1400 ∧ 0 ≤ s * k / 2 ∧ s * k / 2 ≤ 700 := by
  have e1 : 0 ≤ s * k := Int.mul_nonneg h1 h3
  have e2 : s * k ≤ s * 2 := Int.mul_le_mul_of_nonneg_left h4 h1
  omega
/-- all that the walks want to know of sizes -/
structure PlBd (p : Plc) (w h : Int) : Prop where
  t1 : 0 ≤ thM p.rx w ∧ thM p.rx w ≤ 400
  t2 : 0 ≤ thM p.ry h ∧ thM p.ry h ≤ 400
  t3 : 0 ≤ thM p.qw w ∧ thM p.qw w ≤ 400
  t4 : 0 ≤ thM p.qh h ∧ thM p.qh h ≤ 400
  w1 : 0 ≤ wM p w ∧ wM p w ≤ 700
  h1 : 0 ≤ hM p h ∧ hM p h ≤ 700
  a1 : 0 ≤ p.an % 3 ∧ p.an % 3 ≤ 2
  a2 : 0 ≤ p.an / 3 ∧ p.an / 3 ≤ 2
  p1 : 0 ≤ wM p w * (p.an % 3) ∧ wM p w * (p.an % 3) ≤ 1400 ∧ 0 ≤ wM p w * (p.an % 3) / 2 ∧ wM p w * (p.an % 3) / 2 ≤ 700
  p2 : 0 ≤ hM p h * (p.an / 3) ∧ hM p h * (p.an / 3) ≤ 1400 ∧ 0 ≤ hM p h * (p.an / 3) / 2 ∧ hM p h * (p.an / 3) / 2 ≤ 700
theorem pl_bd {p : Plc} {w h : Int} (hp : plB p = true) (hr : rqB w h = true) : PlBd p w h := by
  obtain ⟨b1, b2, b3, b4, b5, b6, b7, b8, b9⟩ := plB_iff.1 hp
  obtain ⟨r1, r2⟩ := rqB_iff.1 hr
  have t1 := th_bd b3.1 b3.2 r1.1 r1.2
  have t2 := th_bd b4.1 b4.2 r2.1 r2.2
  have t3 := th_bd b7.1 b7.2 r1.1 r1.2
  have t4 := th_bd b8.1 b8.2 r2.1 r2.2
  have w1 : 0 ≤ wM p w ∧ wM p w ≤ 700 := by have := mx_spec (p.ww + thM p.qw w) 0; unfold wM; omega
  have h1 : 0 ≤ hM p h ∧ hM p h ≤ 700 := by have := mx_spec (p.hh + thM p.qh h) 0; unfold hM; omega
  have a1 : 0 ≤ p.an % 3 ∧ p.an % 3 ≤ 2 := by omega
  have a2 : 0 ≤ p.an / 3 ∧ p.an / 3 ≤ 2 := by omega
  exact ⟨t1, t2, t3, t4, w1, h1, a1, a2, half_bd w1.1 w1.2 a1.1 a1.2, half_bd h1.1 h1.2 a2.1 a2.2⟩
theorem PlBd.x1 {p : Plc} {w h : Int} (b : PlBd p w h) (hp : plB p = true) : -1000 ≤ xM p w ∧ xM p w ≤ 700 := by
  obtain ⟨b1, _⟩ := plB_iff.1 hp
  obtain ⟨t1, t2, t3, t4, w1, h1, a1, a2, p1, p2⟩ := b
  unfold xM; omega
theorem PlBd.y1 {p : Plc} {w h : Int} (b : PlBd p w h) (hp : plB p = true) : -1000 ≤ yM p h ∧ yM p h ≤ 700 := by
  obtain ⟨_, b2, _⟩ := plB_iff.1 hp
  obtain ⟨t1, t2, t3, t4, w1, h1, a1, a2, p1, p2⟩ := b
  unfold yM; omega
/-- whether it lies inside -/
def piB (p : Plc) (w h : Int) : Bool := insB 0 0 w h (xM p w) (yM p h) (wM p w) (hM p h)
/-- the least size -/
def LeM (p : Plc) (v : Int) : Prop := (0 ≤ v ∧ v ≤ 400 ∧ piB p v v = true ∧ ∀ j : Int, 0 ≤ j → j < v → piB p j j = false) ∨ (v = -1 ∧ ∀ j : Int, 0 ≤ j → j ≤ 400 → piB p j j = false)
theorem LeM_uniq {p : Plc} {a b : Int} (ha : LeM p a) (hb : LeM p b) : a = b := by
  rcases ha with ⟨a0, a1, a2, a3⟩ | ⟨rfl, a1⟩ <;> rcases hb with ⟨b0, b1, b2, b3⟩ | ⟨rfl, b1⟩
  · rcases Int.lt_trichotomy a b with h | h | h
    · have := b3 a a0 h; rw [this] at a2; cases a2
    · exact h
    · have := a3 b b0 h; rw [this] at b2; cases b2
  · have := b1 a a0 a1; rw [this] at a2; cases a2
  · have := a1 b b0 b1; rw [this] at b2; cases b2
  · rfl
theorem le_step {p : Plc} {k : Nat} (h : ∀ j : Int, 0 ≤ j → j < k → piB p j j = false) (hk : piB p k k = false) : ∀ j : Int, 0 ≤ j → j < ((k + 1 : Nat) : Int) → piB p j j = false := fun j j0 j1 => by
  by_cases e : j = k
  · subst e; exact hk
  · exact h j j0 (by omega)
/-- the item that is told another place; what is fixed -/
def atM (p : Plc) (w h x y : Int) : Plc := ⟨p.x + (x - xM p w), p.y + (y - yM p h), p.rx, p.ry, p.ww, p.hh, p.qw, p.qh, p.an⟩
def fixM (p : Plc) (w h : Int) : Plc := ⟨p.x + thM p.rx w, p.y + thM p.ry h, 0, 0, wM p w, hM p h, 0, 0, p.an⟩
def paB (p : Plc) (w h x y : Int) : Bool := prB p w h && (shB x && (shB y && plB (atM p w h x y)))
def fxB (p : Plc) (w h : Int) : Bool := prB p w h && plB (fixM p w h)
end Go.Proofs.Ytikndbinlpmgaaa
namespace Go.Proofs.Ytikndbinlpmgaaa
def Sq (a b c d : Int) : Prop := (-2000 ≤ a ∧ a ≤ 2000) ∧ (-2000 ≤ b ∧ b ≤ 2000) ∧ (-2000 ≤ c ∧ c ≤ 2000) ∧ (-2000 ≤ d ∧ d ≤ 2000)
theorem Sq.sm {a b c d : Int} (h : Sq a b c d) : Sm a b c d := by
  obtain ⟨h1, h2, h3, h4⟩ := h
  exact Sm_of (by omega)
theorem Sq.cover {x y u v x' y' u' v' : Int} (h : Sq x y u v) (h' : Sq x' y' u' v') : Sm (mn x x') (mn y y') (mx (x + u) (x' + u')) (mx (y + v) (y' + v')) ∧ Sq (mn x x') (mn y y') 0 0 ∧ (-4000 ≤ mx (x + u) (x' + u') ∧ mx (x + u) (x' + u') ≤ 4000) ∧ (-4000 ≤ mx (y + v) (y' + v') ∧ mx (y + v) (y' + v') ≤ 4000) := by
  obtain ⟨h1, h2, h3, h4⟩ := h
  obtain ⟨k1, k2, k3, k4⟩ := h'
  have := mn_spec x x'; have := mn_spec y y'; have := mx_spec (x + u) (x' + u'); have := mx_spec (y + v) (y' + v')
  refine ⟨Sm_of (by omega), ⟨by omega, by omega, by omega, by omega⟩, by omega, by omega⟩
theorem holds_all {x y u v x' y' u' v' : Int} :
    (mn x x' = x ∧ mn y y' = y ∧ mx (x + u) (x' + u') - mn x x' = u ∧ mx (y + v) (y' + v') - mn y y' = v) ↔ (x ≤ x' ∧ y ≤ y' ∧ x' + u' ≤ x + u ∧ y' + v' ≤ y + v) := by
  have := mn_spec x x'; have := mn_spec y y'; have := mx_spec (x + u) (x' + u'); have := mx_spec (y + v) (y' + v')
  omega
theorem pl_sq {p : Plc} {w h : Int} (hp : plB p = true) (hr : rqB w h = true) : Sq (xM p w) (yM p h) (wM p w) (hM p h) := by
  have b := pl_bd hp hr
  have b1 := b.x1 hp
  have b2 := b.y1 hp
  have b3 := b.w1
  have b4 := b.h1
  exact ⟨by omega, by omega, by omega, by omega⟩
theorem rm_sq {w h : Int} (hr : rqB w h = true) : Sq 0 0 w h := by
  obtain ⟨r1, r2⟩ := rqB_iff.1 hr
  exact ⟨by omega, by omega, by omega, by omega⟩
theorem le_ex (p : Plc) : ∃ v, LeM p v := by
  have key : ∀ k : Nat, k ≤ 401 → (∃ v, LeM p v) ∨ ∀ j : Int, 0 ≤ j → j < k → piB p j j = false := by
    intro k
    induction k with
    | zero => intro _; exact .inr (fun j h1 h2 => by omega)
    | succ k ih =>
      intro hk
      rcases ih (by omega) with h | h
      · exact .inl h
      · cases hp : piB p (k : Int) (k : Int)
        · exact .inr (le_step h hp)
        · exact .inl ⟨k, .inl ⟨by omega, by omega, hp, h⟩⟩
  rcases key 401 (Nat.le_refl _) with h | h
  · exact h
  · exact ⟨-1, .inr ⟨rfl, fun j h0 h1 => h j h0 (by omega)⟩⟩
theorem prB_yes {p : Plc} {w h : Int} (e : prB p w h = true) : plB p = true ∧ rqB w h = true := by simpa [prB] using e
theorem atM_bd {p : Plc} {w h x y : Int} (e : paB p w h x y = true) : plB p = true ∧ rqB w h = true ∧ shB x = true ∧ shB y = true ∧ plB (atM p w h x y) = true := by
  simp only [paB, prB, Bool.and_eq_true] at e
  exact ⟨e.1.1, e.1.2, e.2.1, e.2.2.1, e.2.2.2⟩
end Go.Proofs.Ytikndbinlpmgaaa
end
