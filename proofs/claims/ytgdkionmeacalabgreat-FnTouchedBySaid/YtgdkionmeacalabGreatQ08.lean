import Derived.Test.YtgdkionmeacalabGreatQ07
import Derived.Deep.CutBlock
section
namespace Go.Proofs.YtgdkionmeacalabGreat
open Go.RowKit
set_option linter.unusedVariables false
set_option linter.unusedSimpArgs false
set_option maxHeartbeats 4000000
attribute [local go_sem] growUpon_value growUpon_skip growUpon_enter
attribute [local go_sem] givesUpon_value givesUpon_skip givesUpon_enter
/-- the widgets of a tree, in a block of their own -/
structure TK (W : World) (lo g : Nat) (R : List Nr) : Prop where
  lo : lo ≤ g
  blk : ∃ cs : Array Value, W.heap[g]? = some (.cells cs 38 (0, 0)) ∧ R.length * 34 ≤ cs.size ∧ ∀ (i : Nat) (r : Nr), R[i]? = some r → InS cs (i * 34) (valsNr r)
  ns : ∀ p ∈ R, NL W p
theorem TK.nrv {W : World} {lo g : Nat} {R : List Nr} (h : TK W lo g R) : NrV W (some ⟨g, 0, none⟩) R := ⟨fun _ => by
  obtain ⟨cs, hh, _, hin⟩ := h.blk
  refine ⟨g, 0, rfl, ltS hh, fun i p hp j u hj => ?_⟩
  rw [Nat.zero_add]
  exact (cellS hh _).trans (hin i p hp j u hj)⟩
theorem TK.keep {W W' : World} {lo g : Nat} {R : List Nr} (h : TK W lo g R) (hb : Below W.heap.size W W') : TK W' lo g R :=
  ⟨h.lo, let ⟨cs, hh, h1, h2⟩ := h.blk; ⟨cs, (hb.block g (ltS hh)).trans hh, h1, h2⟩, fun p hp => (h.ns p hp).kp (KpL.below hb)⟩
theorem TK.call {B rb n c m lo g : Nat} {A : Option Addr} {R : List Nr} {W W' : World} (h : TK W lo g R) (hr : Rd B rb A n c m W) (hc : Chg [rb] W W') (hg : rb < lo) : TK W' lo g R :=
  ⟨h.lo, let ⟨cs, hh, h1, h2⟩ := h.blk; ⟨cs, (hc.block g (ltS hh) (by have := h.lo; simp; omega)).trans hh, h1, h2⟩, fun p hp => (h.ns p hp).call hr hc⟩
theorem TK.there {W : World} {lo g j o : Nat} {R : List Nr} (h : TK W lo g R) (hj : j < R.length) (ho : o < 34) : W.there g (j * 34 + o) 1 := by
  obtain ⟨cs, hh, hs, _⟩ := h.blk
  exact thereB hh (by omega)
theorem put_nr {cs : Array Value} {R : List Nr} {j o : Nat} {p q : Nr} {u : Value} (hin : ∀ (i : Nat) (r : Nr), R[i]? = some r → InS cs (i * 34) (valsNr r)) (hs : R.length * 34 ≤ cs.size) (hp : R[j]? = some p) (ho : o < 34) (he : wrAt (valsNr p).toArray o [u] = (valsNr q).toArray) :
    ∀ (i : Nat) (r : Nr), (R.set j q)[i]? = some r → InS (cs.setIfInBounds (j * 34 + o) u) (i * 34) (valsNr r) := by
  intro i r hr k v hv
  have hj : j < R.length := (List.getElem?_eq_some_iff.1 hp).1
  have hk : k < 34 := by have := (List.getElem?_eq_some_iff.1 hv).1; rwa [valsNr_len] at this
  rw [Array.getElem?_setIfInBounds]
  by_cases hij : i = j
  · subst hij
    rw [List.getElem?_set_self hj] at hr
    obtain rfl := Option.some.inj hr
    have e2 : ((valsNr p).toArray.setIfInBounds o u)[k]? = (valsNr q).toArray[k]? := by rw [← he]; rfl
    rw [Array.getElem?_setIfInBounds] at e2
    by_cases hok : o = k
    · subst hok
      rw [if_pos rfl, if_pos (by rw [List.size_toArray, valsNr_len]; exact ho)] at e2
      rw [if_pos rfl, if_pos (by omega)]
      rw [e2]; simpa using hv
    · rw [if_neg hok] at e2
      rw [if_neg (by omega)]
      exact hin i p hp k v (by have : (valsNr p)[k]? = (valsNr q)[k]? := by simpa using e2
                               rw [this]; exact hv)
  · rw [List.getElem?_set_ne (Ne.symm hij)] at hr
    rw [if_neg (by omega)]
    exact hin i r hr k v hv
structure TvS (a : World) (lo br bt rb g c0 : Nat) (R : List Nr) (W : World) : Prop where
  res : W.heap[br]? = some (.cells #[.slice none 0 0] 25 (0, 0))
  box : W.heap[bt]? = some (.cells #[.slice (some ⟨g, 0, none⟩) R.length c0] 25 (0, 0))
  tk : TK W lo g R
  chg : Chg [rb] a W
theorem TvS.call {a : World} {lo br bt rb g c0 B n c m : Nat} {A : Option Addr} {R : List Nr} {W W' : World} (h : TvS a lo br bt rb g c0 R W) (hr : Rd B rb A n c m W) (hc : Chg [rb] W W') (h1 : rb < lo) (h2 : bt ≠ rb) (h3 : br ≠ rb) : TvS a lo br bt rb g c0 R W' :=
  ⟨(hc.block br (ltS h.res) (by simpa using h3)).trans h.res, (hc.block bt (ltS h.box) (by simpa using h2)).trans h.box, h.tk.call hr hc h1, h.chg.trans hc⟩
theorem TvS.drew {a : World} {lo br bt rb g c0 : Nat} {R : List Nr} {W : World} (h : TvS a lo br bt rb g c0 R W) : TvS a lo br bt rb g c0 R W.drew :=
  ⟨h.res, h.box, h.tk.keep (Below.refl _ _).drew, h.chg.drew⟩
theorem TvS.cellAt {a : World} {lo br bt rb g c0 : Nat} {R : List Nr} {W : World} (h : TvS a lo br bt rb g c0 R W) {j : Nat} {p : Nr} (hp : R[j]? = some p) (o : Nat) (v : Value) (hv : (valsNr p)[o]? = some v) : W.cell? ⟨g, j * 34 + o, none⟩ = some v := by
  obtain ⟨cs, hh, _, hin⟩ := h.tk.blk
  exact (cellS hh _).trans (hin j p hp o v hv)
theorem TvS.frzAt {a : World} {lo br bt rb g c0 : Nat} {R : List Nr} {W : World} (h : TvS a lo br bt rb g c0 R W) (o : Nat) : W.frozen? ⟨g, o, none⟩ = false := by
  obtain ⟨cs, hh, _, hin⟩ := h.tk.blk
  exact frozenS hh o
theorem TvS.put {a : World} {lo br bt rb g c0 : Nat} {R : List Nr} {W : World} (h : TvS a lo br bt rb g c0 R W) (ha : a.heap.size ≤ lo) (h2 : bt ≠ g) (h3 : br ≠ g) {j o : Nat} {p q : Nr} (u : Value) (hp : R[j]? = some p) (ho : o < 34) (he : wrAt (valsNr p).toArray o [u] = (valsNr q).toArray) (e1 : q.ca = p.ca) (e2 : q.cc = p.cc) (e3 : q.ra = p.ra) (e4 : q.rc = p.rc) (e5 : q.n.cs = p.n.cs) (e6 : q.n.rs = p.n.rs) :
    TvS a lo br bt rb g c0 (R.set j q) (W.setCell ⟨g, j * 34 + o, none⟩ u) := by
  obtain ⟨cs, hh, hs, hin⟩ := h.tk.blk
  have hkp : KpL W (W.setCell ⟨g, j * 34 + o, none⟩ u) := KpL.grown (gsetS (greflS W g) _ u) (fun g' cs' e e' => by cases e'; rw [hh] at e; have := Option.some.inj e; simp at this)
  refine ⟨(Below.heap_setCell _ ⟨g, _, none⟩ _ br h3).trans h.res, by rw [List.length_set]; exact (Below.heap_setCell _ ⟨g, _, none⟩ _ bt h2).trans h.box, ⟨h.tk.lo, ⟨_, putS hh u, by simpa using hs, put_nr hin hs hp ho he⟩, fun r hr => ?_⟩, Chg.of_grown h.chg (gsetS (greflS W g) _ u) (.inr (Nat.le_trans ha h.tk.lo))⟩
  rcases List.mem_or_eq_of_mem_set hr with hr | rfl
  · exact (h.tk.ns r hr).kp hkp
  · have hn := (h.tk.ns p (List.mem_of_getElem? hp)).kp hkp
    exact ⟨by rw [e1, e5]; exact hn.c, by rw [e3, e6]; exact hn.r, by rw [e2, e5]; exact hn.cl, by rw [e4, e6]; exact hn.rl, by rw [e5]; exact hn.c5, by rw [e6]; exact hn.r5⟩
theorem TK.res {W : World} {lo g br : Nat} {R : List Nr} {cs : Array Value} (h : TK W lo g R) (hb : W.heap[br]? = some (.cells cs 25 (0, 0))) (hn : br ≠ g) (u : Value) : TK (W.setCell ⟨br, 0, none⟩ u) lo g R :=
  ⟨h.lo, let ⟨cs, hh, h1, h2⟩ := h.blk; ⟨cs, (Below.heap_setCell _ ⟨br, 0, none⟩ _ g (fun e => hn e.symm)).trans hh, h1, h2⟩, fun p hp => (h.ns p hp).kp (kp_tree hb u)⟩
set_option maxRecDepth 100000 in
theorem someTree_any {B rb : Nat} {A : Option Addr} {l c m : Nat} (w : World) (h : Rd B rb A l c m w) (hm : m ≤ 10000) :
    Calls Tryz.prog 42 #[.pointer (some ⟨rb, 0, none⟩)] w fun e w' => (∃ (g c0 : Nat) (R : List Nr), e = .returned (.agg #[.slice (some ⟨g, 0, none⟩) R.length c0]) ∧ TK w' w.heap.size g R ∧ R.length ≤ c0 ∧ 1 ≤ R.length ∧ R.length ≤ 10) ∧ Rd B rb A l c (m + 9000) w' ∧ Chg [rb] w w' := by
  have hrw : rb < w.heap.size := h.lt
  have hrB : B ≤ rb := h.base
  have hbr : w.heap.size ≠ rb := by omega
  go_enter Tryz.func42, Tryz.ntmps42
  go_wp2_with fail
  obtain ⟨W0, hW0⟩ : ∃ W0, w.alloc (.cells #[.slice none 0 0] 25 (0, 0)) = W0 := ⟨_, rfl⟩
  have hr0 : W0.heap[w.heap.size]? = some (.cells #[.slice none 0 0] 25 (0, 0)) := by rw [← hW0]; exact newS w _
  have hc0 : Chg [rb] w W0 := by rw [← hW0]; exact (Chg.refl [rb] w).alloc _
  have hs0 : W0.heap.size = w.heap.size + 1 := by rw [← hW0]; simp
  have HR0 := Lib.hid (show Rd B rb A l c m W0 by rw [← hW0]; exact h.alloc _)
  rw [hW0]
  clear hW0 h
  with_reducible refine (goodTree_any _ HR0.out (by omega)).mono ?_
  rintro e w1 ⟨⟨v, R, rfl, ho, hl, r1, r2⟩, hr, hc⟩
  rcases own_nr ho rfl with ⟨-, hR0⟩ | ⟨g, c0, cs, rfl, hgl, hcap, hh, hcs, hin⟩
  · subst hR0; simp at r1
  obtain ⟨bt, hbtE⟩ : ∃ bt, w1.heap.size = bt := ⟨_, rfl⟩
  have hgb := ltS hh
  have hbt : bt ≠ rb := by have := hr.lt; omega
  have hw1 : w.heap.size < w1.heap.size := by have := ltS hr0; have := hc.size; omega
  have htv : TvS w w.heap.size w.heap.size bt rb g c0 R (w1.alloc (.cells #[.slice (some ⟨g, 0, none⟩) R.length c0] 25 (0, 0))) := by
    rw [← hbtE]
    exact ⟨(Below.heap_alloc _ _ _ hw1).trans ((hc.block _ (ltS hr0) (by simpa using hbr)).trans hr0), newS w1 _, ⟨by omega, ⟨cs, (Below.heap_alloc _ _ _ hgb).trans hh, by rw [hcs]; exact Nat.mul_le_mul_right _ hcap, hin⟩, fun p hp => (hl p hp).1.kp (KpL.below (balloc (Below.refl _ _)))⟩, (hc0.trans hc).alloc _⟩
  obtain ⟨wt, hwt⟩ : ∃ wt, w1.alloc (.cells #[.slice (some ⟨g, 0, none⟩) R.length c0] 25 (0, 0)) = wt := ⟨_, rfl⟩
  have HT := Lib.hid (show TvS w w.heap.size w.heap.size bt rb g c0 R wt by rw [← hwt]; exact htv)
  have HR := Lib.hid (show Rd B rb A l c (m + 8000) wt by rw [← hwt]; exact hr.alloc _)
  have cb0 := cellS HT.out.box 0
  clear htv hr hr0 hc0 hc HR0 ho hl hh hin
  go_upto_region 2 with (fail)
  clear hwt
  go_wp2_with fail
  with_reducible refine (pick_any _ _ HR.out (by omega)).mono ?_
  rintro e w2 ⟨⟨z, rfl, hz⟩, hr, hc⟩
  obtain ⟨z0, z1⟩ := hz (by omega)
  obtain ⟨j, rfl⟩ := Int.eq_ofNat_of_zero_le z0
  have hjl : j < R.length := by omega
  have hjli : (j : Int) < (R.length : Int) := by omega
  replace HT := Lib.hid (HT.out.call HR.out hc hrw hbt hbr)
  replace HR := Lib.hid hr
  clear hr hc cb0 hz
  go_wp2_with fail
  with_reducible refine (pick_any _ _ HR.out (by omega)).mono ?_
  rintro e w3 ⟨⟨y, rfl, -⟩, hr, hc⟩
  replace HT := Lib.hid (HT.out.call HR.out hc hrw hbt hbr)
  replace HR := Lib.hid hr
  clear hr hc
  obtain ⟨mR, hmR⟩ : ∃ mR, m + 8002 = mR := ⟨_, rfl⟩
  replace HR := Lib.hid (show Rd B rb A l c mR w3 from hmR ▸ HR.out)
  have hmR2 : mR ≤ 20000 := by omega
  obtain ⟨p, hpj⟩ : ∃ p, R[j]? = some p := ⟨_, List.getElem?_eq_getElem hjl⟩
  have hgr : g ≠ rb := by omega
  have hgB : B ≤ g := by omega
  have hbtg : bt ≠ g := by omega
  have hbrg : w.heap.size ≠ g := by omega
  have hgs := (let ⟨_, hh, _⟩ := HT.out.tk.blk; ltS hh : g < w3.heap.size)
  have hts := ltS HT.out.box
  go_upto_block 0 with (fail)
  go_cut [4] (fun iv wx => iv = .int .i64 (j : Int) ∧ ∃ R' : List Nr, R'.length = R.length ∧ TvS w w.heap.size w.heap.size bt rb g c0 R' wx ∧ Rd B rb A l c (mR + 250) wx)
  case first =>
    by_cases y0 : y = 0
    · subst y0
      go_upto_region 5 with (fail)
      refine wp_region_rgp (fun k => ((fun v _ => v = .pointer (some ⟨bt, 0, none⟩)) :: (fun v _ => v = .slice (some ⟨g, 0, none⟩) R.length c0) :: (fun v _ => v = .int .i64 (j : Int)) :: (fun v _ => v = .pointer (some ⟨rb, 0, none⟩)) :: (fun v _ => v = .int .i64 (j : Int)) :: (TL B [rb] 3) :: (fun v _ => ∃ z : Int, v = .int .i64 z) :: (fun v _ => v = .pointer (some ⟨g, j * 34, none⟩)) :: (fun v _ => v = .pointer (some ⟨g, j * 34 + 0, none⟩)) :: []).getD k (fun _ _ => True)) (Chg [rb]) (fun mm w => Rd B rb A l c (mR + 21 * mm) w) 9 (by kernel_rfl) (by kernel_rfl) (by kernel_rfl) (fun a => Chg.refl _ a) (fun _ _ _ h k => h.trans k) ?hTs ?hI0 ?hops ?hfin
      case hops =>
        refine ⟨opOK_ds [(3, none)] (by kernel_rfl) rfl ?_, ?_⟩
        · intro mm act w' hm' hR hI h1
          have hk : ∀ v, act.eval (.const v) = v := fun _ => rfl
          have hf : ∀ f, act.eval (.func f) = .func (.func f) #[] #[] := fun _ => rfl
          generalize act.eval = ρ at *
          have hm : mm < 10 := hm'
          replace h1 : ρ (.tmp 3) = .pointer (some ⟨bt, 0, none⟩) := h1
          refine gx_genT (fun K hK => ?_)
          go_simp
          exact hK _ _ ⟨rfl, Chg.refl _ _, hI.mono (by omega)⟩
        refine ⟨opOK_ds [(16, some 0)] (by kernel_rfl) rfl ?_, ?_⟩
        · intro mm act w' hm' hR hI h1
          have hk : ∀ v, act.eval (.const v) = v := fun _ => rfl
          have hf : ∀ f, act.eval (.func f) = .func (.func f) #[] #[] := fun _ => rfl
          generalize act.eval = ρ at *
          have hm : mm < 10 := hm'
          replace h1 : ρ (.tmp 16) = .pointer (some ⟨bt, 0, none⟩) := h1
          refine gx_genT (fun K hK => ?_)
          have d0 := cellS ((hR.block bt (by simpa using hts) (by simpa using hbt)).trans HT.out.box) 0
          go_simp
          exact hK _ _ ⟨rfl, Chg.refl _ _, hI.mono (by omega)⟩
        refine ⟨opOK_ds [(4, none)] (by kernel_rfl) rfl ?_, ?_⟩
        · intro mm act w' hm' hR hI h1
          have hk : ∀ v, act.eval (.const v) = v := fun _ => rfl
          have hf : ∀ f, act.eval (.func f) = .func (.func f) #[] #[] := fun _ => rfl
          generalize act.eval = ρ at *
          have hm : mm < 10 := hm'
          replace h1 : ρ (.tmp 4) = .int .i64 (j : Int) := h1
          refine gx_genT (fun K hK => ?_)
          go_simp
          exact hK _ _ ⟨rfl, Chg.refl _ _, hI.mono (by omega)⟩
        refine ⟨opOK_ds [(0, none)] (by kernel_rfl) rfl ?_, ?_⟩
        · intro mm act w' hm' hR hI h1
          have hk : ∀ v, act.eval (.const v) = v := fun _ => rfl
          have hf : ∀ f, act.eval (.func f) = .func (.func f) #[] #[] := fun _ => rfl
          generalize act.eval = ρ at *
          have hm : mm < 10 := hm'
          replace h1 : ρ (.tmp 0) = .pointer (some ⟨rb, 0, none⟩) := h1
          refine gx_genT (fun K hK => ?_)
          go_simp
          exact hK _ _ ⟨rfl, Chg.refl _ _, hI.mono (by omega)⟩
        refine ⟨opOK_ds [(4, none)] (by kernel_rfl) rfl ?_, ?_⟩
        · intro mm act w' hm' hR hI h1
          have hk : ∀ v, act.eval (.const v) = v := fun _ => rfl
          have hf : ∀ f, act.eval (.func f) = .func (.func f) #[] #[] := fun _ => rfl
          generalize act.eval = ρ at *
          have hm : mm < 10 := hm'
          replace h1 : ρ (.tmp 4) = .int .i64 (j : Int) := h1
          refine gx_genT (fun K hK => ?_)
          go_simp
          exact hK _ _ ⟨rfl, Chg.refl _ _, hI.mono (by omega)⟩
        refine ⟨opOK_ds [(20, some 4)] (by kernel_rfl) rfl ?_, ?_⟩
        · intro mm act w' hm' hR hI h1
          have hk : ∀ v, act.eval (.const v) = v := fun _ => rfl
          have hf : ∀ f, act.eval (.func f) = .func (.func f) #[] #[] := fun _ => rfl
          generalize act.eval = ρ at *
          have hm : mm < 10 := hm'
          replace h1 : ρ (.tmp 20) = .int .i64 (j : Int) := h1
          refine gx_genT (fun K hK => ?_)
          have hrl := hI.lt
          go_simp
          exact hK _ _ ⟨TL.lit (by omega) (by simp; omega) (by simp) (by simp [isI]), (Chg.refl _ _).alloc _, (hI.alloc _).mono (by omega)⟩
        refine ⟨opOK_ds [(19, some 3), (21, some 5)] (by kernel_rfl) rfl ?_, ?_⟩
        · intro mm act w' hm' hR hI h1 h2
          have hk : ∀ v, act.eval (.const v) = v := fun _ => rfl
          have hf : ∀ f, act.eval (.func f) = .func (.func f) #[] #[] := fun _ => rfl
          generalize act.eval = ρ at *
          have hm : mm < 10 := hm'
          replace h1 : ρ (.tmp 19) = .pointer (some ⟨rb, 0, none⟩) := h1
          replace h2 : (TL B [rb] 3) (ρ (.tmp 21)) w' := h2
          refine gx_genT (fun K hK => ?_)
          go_simp
          with_reducible refine (one_any _ hI (by omega) h2 (by omega) (by omega)).mono ?_
          rintro e w1 ⟨⟨z, rfl⟩, hr, hc⟩
          exact ⟨_, rfl, hK _ _ ⟨⟨z, rfl⟩, hc, hr.mono (by omega)⟩⟩
        refine ⟨opOK_ds [(17, some 1), (18, some 2)] (by kernel_rfl) rfl ?_, ?_⟩
        · intro mm act w' hm' hR hI h1 h2
          have hk : ∀ v, act.eval (.const v) = v := fun _ => rfl
          have hf : ∀ f, act.eval (.func f) = .func (.func f) #[] #[] := fun _ => rfl
          generalize act.eval = ρ at *
          have hm : mm < 10 := hm'
          replace h1 : ρ (.tmp 17) = .slice (some ⟨g, 0, none⟩) R.length c0 := h1
          replace h2 : ρ (.tmp 18) = .int .i64 (j : Int) := h2
          refine gx_genT (fun K hK => ?_)
          go_simp
          exact hK _ _ ⟨rfl, Chg.refl _ _, hI.mono (by omega)⟩
        refine ⟨opOK_ds [(23, some 7)] (by kernel_rfl) rfl ?_, ?_⟩
        · intro mm act w' hm' hR hI h1
          have hk : ∀ v, act.eval (.const v) = v := fun _ => rfl
          have hf : ∀ f, act.eval (.func f) = .func (.func f) #[] #[] := fun _ => rfl
          generalize act.eval = ρ at *
          have hm : mm < 10 := hm'
          replace h1 : ρ (.tmp 23) = .pointer (some ⟨g, j * 34, none⟩) := h1
          refine gx_genT (fun K hK => ?_)
          go_simp
          exact hK _ _ ⟨rfl, Chg.refl _ _, hI.mono (by omega)⟩
        exact trivial
      case hTs =>
        intro k v x y hv hc
        exact stab_listT (by
          intro T hT
          simp only [List.mem_cons, List.not_mem_nil, or_false] at hT
          rcases hT with rfl | rfl | rfl | rfl | rfl | rfl | rfl | rfl | rfl <;> first | exact fun v a b h _ => h | exact fun v a b h hc => TL.keep h hc)
          k v x y hv hc
      case hI0 => exact (HR.out.drew).mono (by omega)
      case hfin =>
        intro w6 hR6 hI6
        intro v16 t16 v17 t17 v18 t18 v19 t19 v20 t20 v21 t21 v22 t22 v23 t23 v24 t24
        obtain ⟨q, rfl⟩ : ∃ q : Int, v22 = .int .i64 q := t22
        obtain rfl : v24 = .pointer (some ⟨g, j * 34 + 0, none⟩) := t24
        clear t16 t17 t18 t19 t20 t21 t23
        simp only [List.take, finP, Act.put, List.setIfInBounds_toArray, List.set_cons_succ, List.set_cons_zero]
        replace HT := Lib.hid (HT.out.drew.call HR.out.drew hR6 hrw hbt hbr)
        replace HR := Lib.hid (show Rd B rb A l c (mR + 21 * 9) w6 from hI6)
        clear hR6 hI6
        have cg : w6.cell? ⟨g, j * 34, none⟩ = _ := HT.out.cellAt hpj 0 _ rfl
        have fg : w6.frozen? ⟨g, j * 34, none⟩ = false := HT.out.frzAt _
        refine wpAny_one (f := 0) (i := 9) (by kernel_rfl) rfl rfl ?_
        go_simp
        refine wpAny_end (by kernel_rfl) ?_
        go_wp2
        go_meet
        exact ⟨rfl, R.set j (⟨{ p.n with pa := q }, p.ca, p.cc, p.ra, p.rc⟩), by simp, HT.out.put (Nat.le_refl _) hbtg hbrg (.int .i64 q) hpj (show 0 < 34 by decide) (by kernel_rfl) rfl rfl rfl rfl rfl rfl, (HR.out.sets hgB hgr (j * 34 + 0) [.int .i64 q]).mono (by omega)⟩
    · have n0 : (y == 0) = false := by simpa using y0
      by_cases y1 : y = 1
      · subst y1
        go_upto_region 7 with (fail)
        refine wp_region_rgp (fun k => ((fun v _ => v = .pointer (some ⟨bt, 0, none⟩)) :: (fun v _ => v = .slice (some ⟨g, 0, none⟩) R.length c0) :: (fun v _ => v = .int .i64 (j : Int)) :: (fun v _ => v = .pointer (some ⟨rb, 0, none⟩)) :: (TL B [rb] 2) :: (fun v _ => ∃ z : Int, v = .int .i64 z) :: (fun v _ => v = .pointer (some ⟨g, j * 34, none⟩)) :: (fun v _ => v = .pointer (some ⟨g, j * 34 + 1, none⟩)) :: []).getD k (fun _ _ => True)) (Chg [rb]) (fun mm w => Rd B rb A l c (mR + 21 * mm) w) 8 (by kernel_rfl) (by kernel_rfl) (by kernel_rfl) (fun a => Chg.refl _ a) (fun _ _ _ h k => h.trans k) ?hTs ?hI0 ?hops ?hfin
        case hops =>
          refine ⟨opOK_ds [(3, none)] (by kernel_rfl) rfl ?_, ?_⟩
          · intro mm act w' hm' hR hI h1
            have hk : ∀ v, act.eval (.const v) = v := fun _ => rfl
            have hf : ∀ f, act.eval (.func f) = .func (.func f) #[] #[] := fun _ => rfl
            generalize act.eval = ρ at *
            have hm : mm < 9 := hm'
            replace h1 : ρ (.tmp 3) = .pointer (some ⟨bt, 0, none⟩) := h1
            refine gx_genT (fun K hK => ?_)
            go_simp
            exact hK _ _ ⟨rfl, Chg.refl _ _, hI.mono (by omega)⟩
          refine ⟨opOK_ds [(27, some 0)] (by kernel_rfl) rfl ?_, ?_⟩
          · intro mm act w' hm' hR hI h1
            have hk : ∀ v, act.eval (.const v) = v := fun _ => rfl
            have hf : ∀ f, act.eval (.func f) = .func (.func f) #[] #[] := fun _ => rfl
            generalize act.eval = ρ at *
            have hm : mm < 9 := hm'
            replace h1 : ρ (.tmp 27) = .pointer (some ⟨bt, 0, none⟩) := h1
            refine gx_genT (fun K hK => ?_)
            have d0 := cellS ((hR.block bt (by simpa using hts) (by simpa using hbt)).trans HT.out.box) 0
            go_simp
            exact hK _ _ ⟨rfl, Chg.refl _ _, hI.mono (by omega)⟩
          refine ⟨opOK_ds [(4, none)] (by kernel_rfl) rfl ?_, ?_⟩
          · intro mm act w' hm' hR hI h1
            have hk : ∀ v, act.eval (.const v) = v := fun _ => rfl
            have hf : ∀ f, act.eval (.func f) = .func (.func f) #[] #[] := fun _ => rfl
            generalize act.eval = ρ at *
            have hm : mm < 9 := hm'
            replace h1 : ρ (.tmp 4) = .int .i64 (j : Int) := h1
            refine gx_genT (fun K hK => ?_)
            go_simp
            exact hK _ _ ⟨rfl, Chg.refl _ _, hI.mono (by omega)⟩
          refine ⟨opOK_ds [(0, none)] (by kernel_rfl) rfl ?_, ?_⟩
          · intro mm act w' hm' hR hI h1
            have hk : ∀ v, act.eval (.const v) = v := fun _ => rfl
            have hf : ∀ f, act.eval (.func f) = .func (.func f) #[] #[] := fun _ => rfl
            generalize act.eval = ρ at *
            have hm : mm < 9 := hm'
            replace h1 : ρ (.tmp 0) = .pointer (some ⟨rb, 0, none⟩) := h1
            refine gx_genT (fun K hK => ?_)
            go_simp
            exact hK _ _ ⟨rfl, Chg.refl _ _, hI.mono (by omega)⟩
          refine ⟨opOK_ds [] (by kernel_rfl) rfl ?_, ?_⟩
          · intro mm act w' hm' hR hI 
            have hk : ∀ v, act.eval (.const v) = v := fun _ => rfl
            have hf : ∀ f, act.eval (.func f) = .func (.func f) #[] #[] := fun _ => rfl
            generalize act.eval = ρ at *
            have hm : mm < 9 := hm'
            refine gx_genT (fun K hK => ?_)
            have hrl := hI.lt
            go_simp
            exact hK _ _ ⟨TL.lit (by omega) (by simp; omega) (by simp) (by simp [isI]), (Chg.refl _ _).alloc _, (hI.alloc _).mono (by omega)⟩
          refine ⟨opOK_ds [(30, some 3), (31, some 4)] (by kernel_rfl) rfl ?_, ?_⟩
          · intro mm act w' hm' hR hI h1 h2
            have hk : ∀ v, act.eval (.const v) = v := fun _ => rfl
            have hf : ∀ f, act.eval (.func f) = .func (.func f) #[] #[] := fun _ => rfl
            generalize act.eval = ρ at *
            have hm : mm < 9 := hm'
            replace h1 : ρ (.tmp 30) = .pointer (some ⟨rb, 0, none⟩) := h1
            replace h2 : (TL B [rb] 2) (ρ (.tmp 31)) w' := h2
            refine gx_genT (fun K hK => ?_)
            go_simp
            with_reducible refine (one_any _ hI (by omega) h2 (by omega) (by omega)).mono ?_
            rintro e w1 ⟨⟨z, rfl⟩, hr, hc⟩
            exact ⟨_, rfl, hK _ _ ⟨⟨z, rfl⟩, hc, hr.mono (by omega)⟩⟩
          refine ⟨opOK_ds [(28, some 1), (29, some 2)] (by kernel_rfl) rfl ?_, ?_⟩
          · intro mm act w' hm' hR hI h1 h2
            have hk : ∀ v, act.eval (.const v) = v := fun _ => rfl
            have hf : ∀ f, act.eval (.func f) = .func (.func f) #[] #[] := fun _ => rfl
            generalize act.eval = ρ at *
            have hm : mm < 9 := hm'
            replace h1 : ρ (.tmp 28) = .slice (some ⟨g, 0, none⟩) R.length c0 := h1
            replace h2 : ρ (.tmp 29) = .int .i64 (j : Int) := h2
            refine gx_genT (fun K hK => ?_)
            go_simp
            exact hK _ _ ⟨rfl, Chg.refl _ _, hI.mono (by omega)⟩
          refine ⟨opOK_ds [(33, some 6)] (by kernel_rfl) rfl ?_, ?_⟩
          · intro mm act w' hm' hR hI h1
            have hk : ∀ v, act.eval (.const v) = v := fun _ => rfl
            have hf : ∀ f, act.eval (.func f) = .func (.func f) #[] #[] := fun _ => rfl
            generalize act.eval = ρ at *
            have hm : mm < 9 := hm'
            replace h1 : ρ (.tmp 33) = .pointer (some ⟨g, j * 34, none⟩) := h1
            refine gx_genT (fun K hK => ?_)
            go_simp
            exact hK _ _ ⟨rfl, Chg.refl _ _, hI.mono (by omega)⟩
          exact trivial
        case hTs =>
          intro k v x y hv hc
          exact stab_listT (by
            intro T hT
            simp only [List.mem_cons, List.not_mem_nil, or_false] at hT
            rcases hT with rfl | rfl | rfl | rfl | rfl | rfl | rfl | rfl <;> first | exact fun v a b h _ => h | exact fun v a b h hc => TL.keep h hc)
            k v x y hv hc
        case hI0 => exact (HR.out.drew).mono (by omega)
        case hfin =>
          intro w6 hR6 hI6
          intro v27 t27 v28 t28 v29 t29 v30 t30 v31 t31 v32 t32 v33 t33 v34 t34
          obtain ⟨q, rfl⟩ : ∃ q : Int, v32 = .int .i64 q := t32
          obtain rfl : v34 = .pointer (some ⟨g, j * 34 + 1, none⟩) := t34
          clear t27 t28 t29 t30 t31 t33
          simp only [List.take, finP, Act.put, List.setIfInBounds_toArray, List.set_cons_succ, List.set_cons_zero]
          replace HT := Lib.hid (HT.out.drew.call HR.out.drew hR6 hrw hbt hbr)
          replace HR := Lib.hid (show Rd B rb A l c (mR + 21 * 8) w6 from hI6)
          clear hR6 hI6
          have cg : w6.cell? ⟨g, j * 34 + 1, none⟩ = _ := HT.out.cellAt hpj 1 _ rfl
          have fg : w6.frozen? ⟨g, j * 34 + 1, none⟩ = false := HT.out.frzAt _
          refine wpAny_one (f := 0) (i := 8) (by kernel_rfl) rfl rfl ?_
          go_simp
          refine wpAny_end (by kernel_rfl) ?_
          go_wp2
          go_meet
          exact ⟨rfl, R.set j (⟨{ p.n with ww := q }, p.ca, p.cc, p.ra, p.rc⟩), by simp, HT.out.put (Nat.le_refl _) hbtg hbrg (.int .i64 q) hpj (show 1 < 34 by decide) (by kernel_rfl) rfl rfl rfl rfl rfl rfl, (HR.out.sets hgB hgr (j * 34 + 1) [.int .i64 q]).mono (by omega)⟩
      · have n1 : (y == 1) = false := by simpa using y1
        by_cases y2 : y = 2
        · subst y2
          go_upto_region 9 with (fail)
          refine wp_region_rgp (fun k => ((fun v _ => v = .pointer (some ⟨bt, 0, none⟩)) :: (fun v _ => v = .slice (some ⟨g, 0, none⟩) R.length c0) :: (fun v _ => v = .int .i64 (j : Int)) :: (fun v _ => v = .pointer (some ⟨rb, 0, none⟩)) :: (TL B [rb] 4) :: (fun v _ => ∃ z : Int, v = .int .i64 z) :: (fun v _ => v = .pointer (some ⟨g, j * 34, none⟩)) :: (fun v _ => v = .pointer (some ⟨g, j * 34 + 4, none⟩)) :: []).getD k (fun _ _ => True)) (Chg [rb]) (fun mm w => Rd B rb A l c (mR + 21 * mm) w) 8 (by kernel_rfl) (by kernel_rfl) (by kernel_rfl) (fun a => Chg.refl _ a) (fun _ _ _ h k => h.trans k) ?hTs ?hI0 ?hops ?hfin
          case hops =>
            refine ⟨opOK_ds [(3, none)] (by kernel_rfl) rfl ?_, ?_⟩
            · intro mm act w' hm' hR hI h1
              have hk : ∀ v, act.eval (.const v) = v := fun _ => rfl
              have hf : ∀ f, act.eval (.func f) = .func (.func f) #[] #[] := fun _ => rfl
              generalize act.eval = ρ at *
              have hm : mm < 9 := hm'
              replace h1 : ρ (.tmp 3) = .pointer (some ⟨bt, 0, none⟩) := h1
              refine gx_genT (fun K hK => ?_)
              go_simp
              exact hK _ _ ⟨rfl, Chg.refl _ _, hI.mono (by omega)⟩
            refine ⟨opOK_ds [(37, some 0)] (by kernel_rfl) rfl ?_, ?_⟩
            · intro mm act w' hm' hR hI h1
              have hk : ∀ v, act.eval (.const v) = v := fun _ => rfl
              have hf : ∀ f, act.eval (.func f) = .func (.func f) #[] #[] := fun _ => rfl
              generalize act.eval = ρ at *
              have hm : mm < 9 := hm'
              replace h1 : ρ (.tmp 37) = .pointer (some ⟨bt, 0, none⟩) := h1
              refine gx_genT (fun K hK => ?_)
              have d0 := cellS ((hR.block bt (by simpa using hts) (by simpa using hbt)).trans HT.out.box) 0
              go_simp
              exact hK _ _ ⟨rfl, Chg.refl _ _, hI.mono (by omega)⟩
            refine ⟨opOK_ds [(4, none)] (by kernel_rfl) rfl ?_, ?_⟩
            · intro mm act w' hm' hR hI h1
              have hk : ∀ v, act.eval (.const v) = v := fun _ => rfl
              have hf : ∀ f, act.eval (.func f) = .func (.func f) #[] #[] := fun _ => rfl
              generalize act.eval = ρ at *
              have hm : mm < 9 := hm'
              replace h1 : ρ (.tmp 4) = .int .i64 (j : Int) := h1
              refine gx_genT (fun K hK => ?_)
              go_simp
              exact hK _ _ ⟨rfl, Chg.refl _ _, hI.mono (by omega)⟩
            refine ⟨opOK_ds [(0, none)] (by kernel_rfl) rfl ?_, ?_⟩
            · intro mm act w' hm' hR hI h1
              have hk : ∀ v, act.eval (.const v) = v := fun _ => rfl
              have hf : ∀ f, act.eval (.func f) = .func (.func f) #[] #[] := fun _ => rfl
              generalize act.eval = ρ at *
              have hm : mm < 9 := hm'
              replace h1 : ρ (.tmp 0) = .pointer (some ⟨rb, 0, none⟩) := h1
              refine gx_genT (fun K hK => ?_)
              go_simp
              exact hK _ _ ⟨rfl, Chg.refl _ _, hI.mono (by omega)⟩
            refine ⟨opOK_ds [] (by kernel_rfl) rfl ?_, ?_⟩
            · intro mm act w' hm' hR hI 
              have hk : ∀ v, act.eval (.const v) = v := fun _ => rfl
              have hf : ∀ f, act.eval (.func f) = .func (.func f) #[] #[] := fun _ => rfl
              generalize act.eval = ρ at *
              have hm : mm < 9 := hm'
              refine gx_genT (fun K hK => ?_)
              have hrl := hI.lt
              go_simp
              exact hK _ _ ⟨TL.lit (by omega) (by simp; omega) (by simp) (by simp [isI]), (Chg.refl _ _).alloc _, (hI.alloc _).mono (by omega)⟩
            refine ⟨opOK_ds [(40, some 3), (41, some 4)] (by kernel_rfl) rfl ?_, ?_⟩
            · intro mm act w' hm' hR hI h1 h2
              have hk : ∀ v, act.eval (.const v) = v := fun _ => rfl
              have hf : ∀ f, act.eval (.func f) = .func (.func f) #[] #[] := fun _ => rfl
              generalize act.eval = ρ at *
              have hm : mm < 9 := hm'
              replace h1 : ρ (.tmp 40) = .pointer (some ⟨rb, 0, none⟩) := h1
              replace h2 : (TL B [rb] 4) (ρ (.tmp 41)) w' := h2
              refine gx_genT (fun K hK => ?_)
              go_simp
              with_reducible refine (one_any _ hI (by omega) h2 (by omega) (by omega)).mono ?_
              rintro e w1 ⟨⟨z, rfl⟩, hr, hc⟩
              exact ⟨_, rfl, hK _ _ ⟨⟨z, rfl⟩, hc, hr.mono (by omega)⟩⟩
            refine ⟨opOK_ds [(38, some 1), (39, some 2)] (by kernel_rfl) rfl ?_, ?_⟩
            · intro mm act w' hm' hR hI h1 h2
              have hk : ∀ v, act.eval (.const v) = v := fun _ => rfl
              have hf : ∀ f, act.eval (.func f) = .func (.func f) #[] #[] := fun _ => rfl
              generalize act.eval = ρ at *
              have hm : mm < 9 := hm'
              replace h1 : ρ (.tmp 38) = .slice (some ⟨g, 0, none⟩) R.length c0 := h1
              replace h2 : ρ (.tmp 39) = .int .i64 (j : Int) := h2
              refine gx_genT (fun K hK => ?_)
              go_simp
              exact hK _ _ ⟨rfl, Chg.refl _ _, hI.mono (by omega)⟩
            refine ⟨opOK_ds [(43, some 6)] (by kernel_rfl) rfl ?_, ?_⟩
            · intro mm act w' hm' hR hI h1
              have hk : ∀ v, act.eval (.const v) = v := fun _ => rfl
              have hf : ∀ f, act.eval (.func f) = .func (.func f) #[] #[] := fun _ => rfl
              generalize act.eval = ρ at *
              have hm : mm < 9 := hm'
              replace h1 : ρ (.tmp 43) = .pointer (some ⟨g, j * 34, none⟩) := h1
              refine gx_genT (fun K hK => ?_)
              go_simp
              exact hK _ _ ⟨rfl, Chg.refl _ _, hI.mono (by omega)⟩
            exact trivial
          case hTs =>
            intro k v x y hv hc
            exact stab_listT (by
              intro T hT
              simp only [List.mem_cons, List.not_mem_nil, or_false] at hT
              rcases hT with rfl | rfl | rfl | rfl | rfl | rfl | rfl | rfl <;> first | exact fun v a b h _ => h | exact fun v a b h hc => TL.keep h hc)
              k v x y hv hc
          case hI0 => exact (HR.out.drew).mono (by omega)
          case hfin =>
            intro w6 hR6 hI6
            intro v37 t37 v38 t38 v39 t39 v40 t40 v41 t41 v42 t42 v43 t43 v44 t44
            obtain ⟨q, rfl⟩ : ∃ q : Int, v42 = .int .i64 q := t42
            obtain rfl : v44 = .pointer (some ⟨g, j * 34 + 4, none⟩) := t44
            clear t37 t38 t39 t40 t41 t43
            simp only [List.take, finP, Act.put, List.setIfInBounds_toArray, List.set_cons_succ, List.set_cons_zero]
            replace HT := Lib.hid (HT.out.drew.call HR.out.drew hR6 hrw hbt hbr)
            replace HR := Lib.hid (show Rd B rb A l c (mR + 21 * 8) w6 from hI6)
            clear hR6 hI6
            have cg : w6.cell? ⟨g, j * 34 + 4, none⟩ = _ := HT.out.cellAt hpj 4 _ rfl
            have fg : w6.frozen? ⟨g, j * 34 + 4, none⟩ = false := HT.out.frzAt _
            refine wpAny_one (f := 0) (i := 8) (by kernel_rfl) rfl rfl ?_
            go_simp
            refine wpAny_end (by kernel_rfl) ?_
            go_wp2
            go_meet
            exact ⟨rfl, R.set j (⟨{ p.n with ki := q }, p.ca, p.cc, p.ra, p.rc⟩), by simp, HT.out.put (Nat.le_refl _) hbtg hbrg (.int .i64 q) hpj (show 4 < 34 by decide) (by kernel_rfl) rfl rfl rfl rfl rfl rfl, (HR.out.sets hgB hgr (j * 34 + 4) [.int .i64 q]).mono (by omega)⟩
        · have n2 : (y == 2) = false := by simpa using y2
          by_cases y3 : y = 3
          · subst y3
            go_upto_region 11 with (fail)
            have cb0 := cellS HT.out.box 0
            have cg := HT.out.cellAt hpj 7 _ rfl
            have fg := HT.out.frzAt (j * 34 + 7)
            go_wp2
            go_meet
            exact ⟨rfl, R.set j (⟨{ p.n with pk := { p.n.pk with w := 1 } }, p.ca, p.cc, p.ra, p.rc⟩), by simp, HT.out.put (Nat.le_refl _) hbtg hbrg (.int .i64 1) hpj (by decide) (by kernel_rfl) rfl rfl rfl rfl rfl rfl, (HR.out.sets hgB hgr (j * 34 + 7) [.int .i64 1]).mono (by omega)⟩
          · have n3 : (y == 3) = false := by simpa using y3
            go_wp2
            go_meet
            exact ⟨rfl, R, rfl, HT.out, HR.out.mono (by omega)⟩
  case rest =>
  obtain ⟨hiv, R', hl', ht, hr⟩ := hcut
  subst hiv
  have cb0 := cellS ht.box 0
  have cr0 := cellS ht.res 0
  have cf0 := frozenS ht.res 0
  go_wp2
  refine bp_genT (fun W => TK W w.heap.size g R' ∧ Rd B rb A l c (m + 9000) W ∧ Chg [rb] w W ∧ W.heap[w.heap.size]? = some (.cells #[.slice (some ⟨g, 0, none⟩) R.length c0] 25 (0, 0))) ⟨ht.tk.res ht.res hbrg _, (hr.setCell (p := ⟨w.heap.size, 0, none⟩) (by show B ≤ w.heap.size; omega) hbr _).mono (by omega), ht.chg.setCell (p := ⟨w.heap.size, 0, none⟩) (.inr (Nat.le_refl _)) _, putS ht.res _⟩ ?_
  clear ht hr cb0 cr0 cf0 HT HR
  rintro W ⟨h1, h2, h3, hz⟩
  have z0 := cellS hz 0
  exact bodyPost_ret (v := .agg #[.slice (some ⟨g, 0, none⟩) R.length c0]) (by simp only [results, Tryz.results42]; go_simp) rfl ⟨⟨g, c0, R', by rw [hl'], h1, by omega, by omega, by omega⟩, h2, h3⟩
end Go.Proofs.YtgdkionmeacalabGreat
end
section
namespace Go.Proofs.YtgdkionmeacalabGreat
open Go.RowKit
set_option linter.unusedVariables false
set_option linter.unusedSimpArgs false
set_option maxHeartbeats 4000000
attribute [local go_sem] growUpon_value growUpon_skip growUpon_enter
attribute [local go_sem] givesUpon_value givesUpon_skip givesUpon_enter
set_option maxRecDepth 100000 in
theorem nodeIn_any {B rb : Nat} {A : Option Addr} {l c m : Nat} (w : World) (h : Rd B rb A l c m w) (hm : m ≤ 10000) :
    Calls Tryz.prog 21 #[.pointer (some ⟨rb, 0, none⟩)] w fun e w' => (∃ (g c0 : Nat) (R : List Nr) (q : Int), e = .returned (.tuple #[.agg #[.slice (some ⟨g, 0, none⟩) R.length c0], .int .i64 q]) ∧ TK w' w.heap.size g R ∧ R.length ≤ c0 ∧ 1 ≤ R.length ∧ R.length ≤ 10) ∧ Rd B rb A l c (m + 10000) w' ∧ Chg [rb] w w' := by
  have hrw : rb < w.heap.size := h.lt
  have hrB : B ≤ rb := h.base
  have hbr : w.heap.size ≠ rb := by omega
  go_enter Tryz.func21, Tryz.ntmps21
  go_wp2_with fail
  obtain ⟨W0, hW0⟩ : ∃ W0, w.alloc (.cells #[.slice none 0 0] 25 (0, 0)) = W0 := ⟨_, rfl⟩
  have hr0 : W0.heap[w.heap.size]? = some (.cells #[.slice none 0 0] 25 (0, 0)) := by rw [← hW0]; exact newS w _
  have hc0 : Chg [rb] w W0 := by rw [← hW0]; exact (Chg.refl [rb] w).alloc _
  have hs0 : W0.heap.size = w.heap.size + 1 := by rw [← hW0]; simp
  have HR0 := Lib.hid (show Rd B rb A l c m W0 by rw [← hW0]; exact h.alloc _)
  rw [hW0]
  clear hW0 h
  with_reducible refine (someTree_any _ HR0.out (by omega)).mono ?_
  rintro e w1 ⟨⟨g, c0, R, rfl, htk, hcap, r1, r2⟩, hr, hc⟩
  obtain ⟨bt, hbtE⟩ : ∃ bt, w1.heap.size = bt := ⟨_, rfl⟩
  have hgb : g < w1.heap.size := let ⟨_, hh, _⟩ := htk.blk; ltS hh
  have hgl := htk.lo
  have hbt : bt ≠ rb := by have := hr.lt; omega
  have hw1 : w.heap.size < w1.heap.size := by have := ltS hr0; have := hc.size; omega
  have htv : TvS w w.heap.size w.heap.size bt rb g c0 R (w1.alloc (.cells #[.slice (some ⟨g, 0, none⟩) R.length c0] 25 (0, 0))) := by
    rw [← hbtE]
    exact ⟨(Below.heap_alloc _ _ _ hw1).trans ((hc.block _ (ltS hr0) (by simpa using hbr)).trans hr0), newS w1 _, ⟨by omega, let ⟨cs, hh, h1, h2⟩ := htk.blk; ⟨cs, (Below.heap_alloc _ _ _ hgb).trans hh, h1, h2⟩, fun p hp => (htk.ns p hp).kp (KpL.below (balloc (Below.refl _ _)))⟩, (hc0.trans hc).alloc _⟩
  obtain ⟨wt, hwt⟩ : ∃ wt, w1.alloc (.cells #[.slice (some ⟨g, 0, none⟩) R.length c0] 25 (0, 0)) = wt := ⟨_, rfl⟩
  obtain ⟨mR, hmR⟩ : ∃ mR, m + 9000 = mR := ⟨_, rfl⟩
  have HT := Lib.hid (show TvS w w.heap.size w.heap.size bt rb g c0 R wt by rw [← hwt]; exact htv)
  have HR := Lib.hid (show Rd B rb A l c mR wt by rw [← hwt, ← hmR]; exact hr.alloc _)
  clear htv hr hr0 hc0 hc HR0 htk
  go_upto_region 2 with (fail)
  clear hwt
  have hgr : g ≠ rb := by omega
  have hbrg : w.heap.size ≠ g := by omega
  have hmR2 : mR ≤ 20000 := by omega
  have hts := ltS HT.out.box
  have wL : IntKind.i64.wrap ((R.length : Int) - 1) = (R.length : Int) - 1 := IntWalk.i64_in _ (by omega)
  refine wp_region_rgp (fun k => ((fun v _ => v = .agg #[.slice (some ⟨g, 0, none⟩) R.length c0]) :: (fun v _ => v = .pointer (some ⟨rb, 0, none⟩)) :: (fun v _ => v = .pointer (some ⟨rb, 0, none⟩)) :: (fun v _ => v = .pointer (some ⟨bt, 0, none⟩)) :: (fun v _ => v = .slice (some ⟨g, 0, none⟩) R.length c0) :: (fun v _ => v = .int .i64 (R.length : Int)) :: (fun v _ => ∃ z : Int, v = .int .i64 z) :: (fun v _ => v = .pointer (some ⟨rb, 0, none⟩)) :: (fun v _ => v = .pointer (some ⟨bt, 0, none⟩)) :: (fun v _ => v = .slice (some ⟨g, 0, none⟩) R.length c0) :: (fun v _ => v = .int .i64 (R.length : Int)) :: (fun v _ => ∃ z : Int, v = .int .i64 z) :: (fun v _ => v = .pointer (some ⟨bt, 0, none⟩)) :: (fun v _ => v = .slice (some ⟨g, 0, none⟩) R.length c0) :: (fun v _ => v = .int .i64 (R.length : Int)) :: (fun v _ => v = .int .i64 ((R.length : Int) - 1)) :: (fun v _ => v = .pointer (some ⟨rb, 0, none⟩)) :: (fun v _ => v = .pointer (some ⟨bt, 0, none⟩)) :: (fun v _ => v = .slice (some ⟨g, 0, none⟩) R.length c0) :: (fun v _ => v = .int .i64 (R.length : Int)) :: (fun v _ => ∃ z : Int, v = .int .i64 z) :: (TL B [rb] 7) :: (fun v _ => ∃ z : Int, v = .int .i64 z) :: []).getD k (fun _ _ => True)) (Chg [rb]) (fun mm w => Rd B rb A l c (mR + 21 * mm) w) 23 (by kernel_rfl) (by kernel_rfl) (by kernel_rfl) (fun a => Chg.refl _ a) (fun _ _ _ h k => h.trans k) ?hTs ?hI0 ?hops ?hfin
  case hops =>
    refine ⟨opOK_ds [(4, none)] (by kernel_rfl) rfl ?_, ?_⟩
    · intro mm act w' hm' hR hI h1
      have hk : ∀ v, act.eval (.const v) = v := fun _ => rfl
      have hf : ∀ f, act.eval (.func f) = .func (.func f) #[] #[] := fun _ => rfl
      generalize act.eval = ρ at *
      have hm : mm < 25 := hm'
      replace h1 : ρ (.tmp 4) = .pointer (some ⟨bt, 0, none⟩) := h1
      refine gx_genT (fun K hK => ?_)
      have d0 := cellS ((hR.block bt (by simpa using hts) (by simpa using hbt)).trans HT.out.box) 0
      go_simp
      exact hK _ _ ⟨rfl, Chg.refl _ _, hI.mono (by omega)⟩
    refine ⟨opOK_ds [(0, none)] (by kernel_rfl) rfl ?_, ?_⟩
    · intro mm act w' hm' hR hI h1
      have hk : ∀ v, act.eval (.const v) = v := fun _ => rfl
      have hf : ∀ f, act.eval (.func f) = .func (.func f) #[] #[] := fun _ => rfl
      generalize act.eval = ρ at *
      have hm : mm < 25 := hm'
      replace h1 : ρ (.tmp 0) = .pointer (some ⟨rb, 0, none⟩) := h1
      refine gx_genT (fun K hK => ?_)
      go_simp
      exact hK _ _ ⟨rfl, Chg.refl _ _, hI.mono (by omega)⟩
    refine ⟨opOK_ds [(0, none)] (by kernel_rfl) rfl ?_, ?_⟩
    · intro mm act w' hm' hR hI h1
      have hk : ∀ v, act.eval (.const v) = v := fun _ => rfl
      have hf : ∀ f, act.eval (.func f) = .func (.func f) #[] #[] := fun _ => rfl
      generalize act.eval = ρ at *
      have hm : mm < 25 := hm'
      replace h1 : ρ (.tmp 0) = .pointer (some ⟨rb, 0, none⟩) := h1
      refine gx_genT (fun K hK => ?_)
      go_simp
      exact hK _ _ ⟨rfl, Chg.refl _ _, hI.mono (by omega)⟩
    refine ⟨opOK_ds [(4, none)] (by kernel_rfl) rfl ?_, ?_⟩
    · intro mm act w' hm' hR hI h1
      have hk : ∀ v, act.eval (.const v) = v := fun _ => rfl
      have hf : ∀ f, act.eval (.func f) = .func (.func f) #[] #[] := fun _ => rfl
      generalize act.eval = ρ at *
      have hm : mm < 25 := hm'
      replace h1 : ρ (.tmp 4) = .pointer (some ⟨bt, 0, none⟩) := h1
      refine gx_genT (fun K hK => ?_)
      go_simp
      exact hK _ _ ⟨rfl, Chg.refl _ _, hI.mono (by omega)⟩
    refine ⟨opOK_ds [(10, some 3)] (by kernel_rfl) rfl ?_, ?_⟩
    · intro mm act w' hm' hR hI h1
      have hk : ∀ v, act.eval (.const v) = v := fun _ => rfl
      have hf : ∀ f, act.eval (.func f) = .func (.func f) #[] #[] := fun _ => rfl
      generalize act.eval = ρ at *
      have hm : mm < 25 := hm'
      replace h1 : ρ (.tmp 10) = .pointer (some ⟨bt, 0, none⟩) := h1
      refine gx_genT (fun K hK => ?_)
      have d0 := cellS ((hR.block bt (by simpa using hts) (by simpa using hbt)).trans HT.out.box) 0
      go_simp
      exact hK _ _ ⟨rfl, Chg.refl _ _, hI.mono (by omega)⟩
    refine ⟨opOK_ds [(11, some 4)] (by kernel_rfl) rfl ?_, ?_⟩
    · intro mm act w' hm' hR hI h1
      have hk : ∀ v, act.eval (.const v) = v := fun _ => rfl
      have hf : ∀ f, act.eval (.func f) = .func (.func f) #[] #[] := fun _ => rfl
      generalize act.eval = ρ at *
      have hm : mm < 25 := hm'
      replace h1 : ρ (.tmp 11) = .slice (some ⟨g, 0, none⟩) R.length c0 := h1
      refine gx_genT (fun K hK => ?_)
      go_simp
      exact hK _ _ ⟨rfl, Chg.refl _ _, hI.mono (by omega)⟩
    refine ⟨opOK_ds [(9, some 2), (12, some 5)] (by kernel_rfl) rfl ?_, ?_⟩
    · intro mm act w' hm' hR hI h1 h2
      have hk : ∀ v, act.eval (.const v) = v := fun _ => rfl
      have hf : ∀ f, act.eval (.func f) = .func (.func f) #[] #[] := fun _ => rfl
      generalize act.eval = ρ at *
      have hm : mm < 25 := hm'
      replace h1 : ρ (.tmp 9) = .pointer (some ⟨rb, 0, none⟩) := h1
      replace h2 : ρ (.tmp 12) = .int .i64 (R.length : Int) := h2
      refine gx_genT (fun K hK => ?_)
      go_simp
      with_reducible refine (pick_any _ _ hI (by omega)).mono ?_
      rintro e w1 ⟨⟨z, rfl, -⟩, hr, hc⟩
      exact ⟨_, rfl, hK _ _ ⟨⟨z, rfl⟩, hc, hr.mono (by omega)⟩⟩
    refine ⟨opOK_ds [(0, none)] (by kernel_rfl) rfl ?_, ?_⟩
    · intro mm act w' hm' hR hI h1
      have hk : ∀ v, act.eval (.const v) = v := fun _ => rfl
      have hf : ∀ f, act.eval (.func f) = .func (.func f) #[] #[] := fun _ => rfl
      generalize act.eval = ρ at *
      have hm : mm < 25 := hm'
      replace h1 : ρ (.tmp 0) = .pointer (some ⟨rb, 0, none⟩) := h1
      refine gx_genT (fun K hK => ?_)
      go_simp
      exact hK _ _ ⟨rfl, Chg.refl _ _, hI.mono (by omega)⟩
    refine ⟨opOK_ds [(4, none)] (by kernel_rfl) rfl ?_, ?_⟩
    · intro mm act w' hm' hR hI h1
      have hk : ∀ v, act.eval (.const v) = v := fun _ => rfl
      have hf : ∀ f, act.eval (.func f) = .func (.func f) #[] #[] := fun _ => rfl
      generalize act.eval = ρ at *
      have hm : mm < 25 := hm'
      replace h1 : ρ (.tmp 4) = .pointer (some ⟨bt, 0, none⟩) := h1
      refine gx_genT (fun K hK => ?_)
      go_simp
      exact hK _ _ ⟨rfl, Chg.refl _ _, hI.mono (by omega)⟩
    refine ⟨opOK_ds [(15, some 8)] (by kernel_rfl) rfl ?_, ?_⟩
    · intro mm act w' hm' hR hI h1
      have hk : ∀ v, act.eval (.const v) = v := fun _ => rfl
      have hf : ∀ f, act.eval (.func f) = .func (.func f) #[] #[] := fun _ => rfl
      generalize act.eval = ρ at *
      have hm : mm < 25 := hm'
      replace h1 : ρ (.tmp 15) = .pointer (some ⟨bt, 0, none⟩) := h1
      refine gx_genT (fun K hK => ?_)
      have d0 := cellS ((hR.block bt (by simpa using hts) (by simpa using hbt)).trans HT.out.box) 0
      go_simp
      exact hK _ _ ⟨rfl, Chg.refl _ _, hI.mono (by omega)⟩
    refine ⟨opOK_ds [(16, some 9)] (by kernel_rfl) rfl ?_, ?_⟩
    · intro mm act w' hm' hR hI h1
      have hk : ∀ v, act.eval (.const v) = v := fun _ => rfl
      have hf : ∀ f, act.eval (.func f) = .func (.func f) #[] #[] := fun _ => rfl
      generalize act.eval = ρ at *
      have hm : mm < 25 := hm'
      replace h1 : ρ (.tmp 16) = .slice (some ⟨g, 0, none⟩) R.length c0 := h1
      refine gx_genT (fun K hK => ?_)
      go_simp
      exact hK _ _ ⟨rfl, Chg.refl _ _, hI.mono (by omega)⟩
    refine ⟨opOK_ds [(14, some 7), (17, some 10)] (by kernel_rfl) rfl ?_, ?_⟩
    · intro mm act w' hm' hR hI h1 h2
      have hk : ∀ v, act.eval (.const v) = v := fun _ => rfl
      have hf : ∀ f, act.eval (.func f) = .func (.func f) #[] #[] := fun _ => rfl
      generalize act.eval = ρ at *
      have hm : mm < 25 := hm'
      replace h1 : ρ (.tmp 14) = .pointer (some ⟨rb, 0, none⟩) := h1
      replace h2 : ρ (.tmp 17) = .int .i64 (R.length : Int) := h2
      refine gx_genT (fun K hK => ?_)
      go_simp
      with_reducible refine (pick_any _ _ hI (by omega)).mono ?_
      rintro e w1 ⟨⟨z, rfl, -⟩, hr, hc⟩
      exact ⟨_, rfl, hK _ _ ⟨⟨z, rfl⟩, hc, hr.mono (by omega)⟩⟩
    refine ⟨opOK_ds [(4, none)] (by kernel_rfl) rfl ?_, ?_⟩
    · intro mm act w' hm' hR hI h1
      have hk : ∀ v, act.eval (.const v) = v := fun _ => rfl
      have hf : ∀ f, act.eval (.func f) = .func (.func f) #[] #[] := fun _ => rfl
      generalize act.eval = ρ at *
      have hm : mm < 25 := hm'
      replace h1 : ρ (.tmp 4) = .pointer (some ⟨bt, 0, none⟩) := h1
      refine gx_genT (fun K hK => ?_)
      go_simp
      exact hK _ _ ⟨rfl, Chg.refl _ _, hI.mono (by omega)⟩
    refine ⟨opOK_ds [(19, some 12)] (by kernel_rfl) rfl ?_, ?_⟩
    · intro mm act w' hm' hR hI h1
      have hk : ∀ v, act.eval (.const v) = v := fun _ => rfl
      have hf : ∀ f, act.eval (.func f) = .func (.func f) #[] #[] := fun _ => rfl
      generalize act.eval = ρ at *
      have hm : mm < 25 := hm'
      replace h1 : ρ (.tmp 19) = .pointer (some ⟨bt, 0, none⟩) := h1
      refine gx_genT (fun K hK => ?_)
      have d0 := cellS ((hR.block bt (by simpa using hts) (by simpa using hbt)).trans HT.out.box) 0
      go_simp
      exact hK _ _ ⟨rfl, Chg.refl _ _, hI.mono (by omega)⟩
    refine ⟨opOK_ds [(20, some 13)] (by kernel_rfl) rfl ?_, ?_⟩
    · intro mm act w' hm' hR hI h1
      have hk : ∀ v, act.eval (.const v) = v := fun _ => rfl
      have hf : ∀ f, act.eval (.func f) = .func (.func f) #[] #[] := fun _ => rfl
      generalize act.eval = ρ at *
      have hm : mm < 25 := hm'
      replace h1 : ρ (.tmp 20) = .slice (some ⟨g, 0, none⟩) R.length c0 := h1
      refine gx_genT (fun K hK => ?_)
      go_simp
      exact hK _ _ ⟨rfl, Chg.refl _ _, hI.mono (by omega)⟩
    refine ⟨opOK_ds [(21, some 14)] (by kernel_rfl) rfl ?_, ?_⟩
    · intro mm act w' hm' hR hI h1
      have hk : ∀ v, act.eval (.const v) = v := fun _ => rfl
      have hf : ∀ f, act.eval (.func f) = .func (.func f) #[] #[] := fun _ => rfl
      generalize act.eval = ρ at *
      have hm : mm < 25 := hm'
      replace h1 : ρ (.tmp 21) = .int .i64 (R.length : Int) := h1
      refine gx_genT (fun K hK => ?_)
      go_simp
      exact hK _ _ ⟨rfl, Chg.refl _ _, hI.mono (by omega)⟩
    refine ⟨opOK_ds [(0, none)] (by kernel_rfl) rfl ?_, ?_⟩
    · intro mm act w' hm' hR hI h1
      have hk : ∀ v, act.eval (.const v) = v := fun _ => rfl
      have hf : ∀ f, act.eval (.func f) = .func (.func f) #[] #[] := fun _ => rfl
      generalize act.eval = ρ at *
      have hm : mm < 25 := hm'
      replace h1 : ρ (.tmp 0) = .pointer (some ⟨rb, 0, none⟩) := h1
      refine gx_genT (fun K hK => ?_)
      go_simp
      exact hK _ _ ⟨rfl, Chg.refl _ _, hI.mono (by omega)⟩
    refine ⟨opOK_ds [(4, none)] (by kernel_rfl) rfl ?_, ?_⟩
    · intro mm act w' hm' hR hI h1
      have hk : ∀ v, act.eval (.const v) = v := fun _ => rfl
      have hf : ∀ f, act.eval (.func f) = .func (.func f) #[] #[] := fun _ => rfl
      generalize act.eval = ρ at *
      have hm : mm < 25 := hm'
      replace h1 : ρ (.tmp 4) = .pointer (some ⟨bt, 0, none⟩) := h1
      refine gx_genT (fun K hK => ?_)
      go_simp
      exact hK _ _ ⟨rfl, Chg.refl _ _, hI.mono (by omega)⟩
    refine ⟨opOK_ds [(24, some 17)] (by kernel_rfl) rfl ?_, ?_⟩
    · intro mm act w' hm' hR hI h1
      have hk : ∀ v, act.eval (.const v) = v := fun _ => rfl
      have hf : ∀ f, act.eval (.func f) = .func (.func f) #[] #[] := fun _ => rfl
      generalize act.eval = ρ at *
      have hm : mm < 25 := hm'
      replace h1 : ρ (.tmp 24) = .pointer (some ⟨bt, 0, none⟩) := h1
      refine gx_genT (fun K hK => ?_)
      have d0 := cellS ((hR.block bt (by simpa using hts) (by simpa using hbt)).trans HT.out.box) 0
      go_simp
      exact hK _ _ ⟨rfl, Chg.refl _ _, hI.mono (by omega)⟩
    refine ⟨opOK_ds [(25, some 18)] (by kernel_rfl) rfl ?_, ?_⟩
    · intro mm act w' hm' hR hI h1
      have hk : ∀ v, act.eval (.const v) = v := fun _ => rfl
      have hf : ∀ f, act.eval (.func f) = .func (.func f) #[] #[] := fun _ => rfl
      generalize act.eval = ρ at *
      have hm : mm < 25 := hm'
      replace h1 : ρ (.tmp 25) = .slice (some ⟨g, 0, none⟩) R.length c0 := h1
      refine gx_genT (fun K hK => ?_)
      go_simp
      exact hK _ _ ⟨rfl, Chg.refl _ _, hI.mono (by omega)⟩
    refine ⟨opOK_ds [(23, some 16), (26, some 19)] (by kernel_rfl) rfl ?_, ?_⟩
    · intro mm act w' hm' hR hI h1 h2
      have hk : ∀ v, act.eval (.const v) = v := fun _ => rfl
      have hf : ∀ f, act.eval (.func f) = .func (.func f) #[] #[] := fun _ => rfl
      generalize act.eval = ρ at *
      have hm : mm < 25 := hm'
      replace h1 : ρ (.tmp 23) = .pointer (some ⟨rb, 0, none⟩) := h1
      replace h2 : ρ (.tmp 26) = .int .i64 (R.length : Int) := h2
      refine gx_genT (fun K hK => ?_)
      go_simp
      with_reducible refine (pick_any _ _ hI (by omega)).mono ?_
      rintro e w1 ⟨⟨z, rfl, -⟩, hr, hc⟩
      exact ⟨_, rfl, hK _ _ ⟨⟨z, rfl⟩, hc, hr.mono (by omega)⟩⟩
    refine ⟨opOK_ds [(13, some 6), (18, some 11), (22, some 15), (27, some 20)] (by kernel_rfl) rfl ?_, ?_⟩
    · intro mm act w' hm' hR hI h1 h2 h3 h4
      have hk : ∀ v, act.eval (.const v) = v := fun _ => rfl
      have hf : ∀ f, act.eval (.func f) = .func (.func f) #[] #[] := fun _ => rfl
      generalize act.eval = ρ at *
      have hm : mm < 25 := hm'
      replace h1 : (fun v _ => ∃ z : Int, v = .int .i64 z) (ρ (.tmp 13)) w' := h1
      replace h2 : (fun v _ => ∃ z : Int, v = .int .i64 z) (ρ (.tmp 18)) w' := h2
      replace h3 : ρ (.tmp 22) = .int .i64 ((R.length : Int) - 1) := h3
      replace h4 : (fun v _ => ∃ z : Int, v = .int .i64 z) (ρ (.tmp 27)) w' := h4
      refine gx_genT (fun K hK => ?_)
      have hrl := hI.lt
      obtain ⟨z1, h1⟩ := h1
      obtain ⟨z2, h2⟩ := h2
      obtain ⟨z4, h4⟩ := h4
      go_simp
      exact hK _ _ ⟨TL.lit (by omega) (by simp; omega) (by simp) (by simp [isI]), (Chg.refl _ _).alloc _, (hI.alloc _).mono (by omega)⟩
    refine ⟨opOK_ds [(8, some 1), (28, some 21)] (by kernel_rfl) rfl ?_, ?_⟩
    · intro mm act w' hm' hR hI h1 h2
      have hk : ∀ v, act.eval (.const v) = v := fun _ => rfl
      have hf : ∀ f, act.eval (.func f) = .func (.func f) #[] #[] := fun _ => rfl
      generalize act.eval = ρ at *
      have hm : mm < 25 := hm'
      replace h1 : ρ (.tmp 8) = .pointer (some ⟨rb, 0, none⟩) := h1
      replace h2 : (TL B [rb] 7) (ρ (.tmp 28)) w' := h2
      refine gx_genT (fun K hK => ?_)
      go_simp
      with_reducible refine (one_any _ hI (by omega) h2 (by omega) (by omega)).mono ?_
      rintro e w1 ⟨⟨z, rfl⟩, hr, hc⟩
      exact ⟨_, rfl, hK _ _ ⟨⟨z, rfl⟩, hc, hr.mono (by omega)⟩⟩
    exact trivial
  case hTs =>
    intro k v x y hv hc
    exact stab_listT (by
      intro T hT
      simp only [List.mem_cons, List.not_mem_nil, or_false] at hT
      rcases hT with rfl | rfl | rfl | rfl | rfl | rfl | rfl | rfl | rfl | rfl | rfl | rfl | rfl | rfl | rfl | rfl | rfl | rfl | rfl | rfl | rfl | rfl | rfl <;> first | exact fun v a b h _ => h | exact fun v a b h hc => TL.keep h hc)
      k v x y hv hc
  case hI0 => exact (HR.out.drew).mono (by omega)
  case hfin =>
    intro w6 hR6 hI6
    intro v7 t7 v8 t8 v9 t9 v10 t10 v11 t11 v12 t12 v13 t13 v14 t14 v15 t15 v16 t16 v17 t17 v18 t18 v19 t19 v20 t20 v21 t21 v22 t22 v23 t23 v24 t24 v25 t25 v26 t26 v27 t27 v28 t28 v29 t29
    obtain ⟨q, rfl⟩ : ∃ q : Int, v29 = .int .i64 q := t29
    obtain rfl : v7 = .agg #[.slice (some ⟨g, 0, none⟩) R.length c0] := t7
    clear t8 t9 t10 t11 t12 t13 t14 t15 t16 t17 t18 t19 t20 t21 t22 t23 t24 t25 t26 t27 t28
    simp only [List.take, finP, Act.put, List.setIfInBounds_toArray, List.set_cons_succ, List.set_cons_zero]
    replace HT := Lib.hid (HT.out.drew.call HR.out.drew hR6 hrw hbt hbr)
    replace HR := Lib.hid (show Rd B rb A l c (mR + 21 * 23) w6 from hI6)
    clear hR6 hI6
    have cr := cellS HT.out.res 0
    have fr := frozenS HT.out.res 0
    refine wpAny_one (f := 1) (i := 23) (by kernel_rfl) rfl rfl ?_
    go_simp
    refine wpAny_one (f := 0) (i := 24) (by kernel_rfl) rfl rfl ?_
    go_simp
    refine wpAny_end (by kernel_rfl) ?_
    go_wp2
    refine bp_genT (fun W => TK W w.heap.size g R ∧ Rd B rb A l c (m + 10000) W ∧ Chg [rb] w W ∧ W.heap[w.heap.size]? = some (.cells #[.slice (some ⟨g, 0, none⟩) R.length c0] 25 (0, 0))) ⟨HT.out.tk.res HT.out.res hbrg _, (HR.out.setCell (p := ⟨w.heap.size, 0, none⟩) (by show B ≤ w.heap.size; omega) hbr _).mono (by omega), HT.out.chg.setCell (p := ⟨w.heap.size, 0, none⟩) (.inr (Nat.le_refl _)) _, putS HT.out.res _⟩ ?_
    clear HT HR cr fr
    rintro W ⟨h1, h2, h3, hz⟩
    have z0 := cellS hz 0
    exact bodyPost_ret (v := .tuple #[.agg #[.slice (some ⟨g, 0, none⟩) R.length c0], .int .i64 q]) (by simp only [results, Tryz.results21]; go_simp) rfl ⟨⟨g, c0, R, q, rfl, h1, hcap, r1, r2⟩, h2, h3⟩
end Go.Proofs.YtgdkionmeacalabGreat
end
