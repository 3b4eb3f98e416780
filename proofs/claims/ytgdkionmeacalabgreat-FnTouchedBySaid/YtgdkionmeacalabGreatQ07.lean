import Derived.Test.YtgdkionmeacalabGreatQ06
import Derived.Deep.DeepCutAuto
section
namespace Go.Proofs.YtgdkionmeacalabGreat
open Go.RowKit
set_option linter.unusedVariables false
set_option linter.unusedSimpArgs false
set_option maxHeartbeats 40000000
attribute [local go_sem] growUpon_value growUpon_skip growUpon_enter
attribute [local go_sem] givesUpon_value givesUpon_skip givesUpon_enter
theorem gx_genT {P : Program} {K : Value → World → Prop} {r : Result Next} (h : ∀ K' : Value → World → Prop, (∀ v w', K v w' → K' v w') → givesUpon P K' r) : givesUpon P K r := h K fun _ _ h => h
theorem stab_listT {S : List Nat} : ∀ {l : List (Value → World → Prop)}, (∀ T ∈ l, ∀ (v : Value) (a b : World), T v a → Chg S a b → T v b) → ∀ (k : Nat) (v : Value) (a b : World), l.getD k (fun _ _ => True) v a → Chg S a b → l.getD k (fun _ _ => True) v b
  | [], _, k, v, a, b, h, hc => trivial
  | T :: r, hl, 0, v, a, b, h, hc => hl T List.mem_cons_self v a b h hc
  | T :: r, hl, k + 1, v, a, b, h, hc => stab_listT (l := r) (fun T hT => hl T (List.mem_cons_of_mem _ hT)) k v a b h hc
theorem bp_genT {P : Program} {f : Func} {R : Ending → World → Prop} {e : Exit} {a : Act} {W : World} (F : World → Prop) (hF : F W) (h : ∀ W0, F W0 → bodyPost P f R e a W0) : bodyPost P f R e a W := h W hF
theorem wp_PT {K : Act → World → Prop} {a : Act} {W : World} (F : World → Prop) (hF : F W) (h : ∀ W0, F W0 → K a W0) : K a W := h W hF
theorem wpAny_storeT {P : Program} {md : Region.Mode} {ops : Array Oper} {Q : Exit → Act → World → Prop} {f : Nat} {listed : Array Bool} {a : Act} {w : World} (i : Nat) (T : TypeId) (x y : Operand) (b o : Nat) (vs : List Value) (hr : Region.ready md ops listed = [i]) (hr2 : Region.ready md ops (listed.setIfInBounds i true) = []) (ho : (ops[i]?).map (fun o => (o.dst, o.op, o.guard)) = some (none, .store T x y, none))
    (hx : a.eval x = .pointer (some ⟨b, o, none⟩)) (hy : a.eval y = .agg vs.toArray) (ht : w.there b o vs.length) (hi : (P.info? T).map (·.size) = some vs.length) (h1 : ∀ v ∈ vs, v.oneCell' = true)
    (h : Q .normal a (w.setCells b o vs)) : wpAny P md ops Q (f + 1) listed a w := by
  cases hq : ops[i]? with
  | none => rw [hq] at ho; cases ho
  | some op =>
    rw [hq] at ho
    simp only [Option.map_some, Option.some.injEq, Prod.mk.injEq] at ho
    obtain ⟨hd, hop, hg⟩ := ho
    refine wpAny_one hr hq hg ?_
    refine wp_store_mid T x y hop b o vs.toArray hx hy (by simpa using ht) (by simpa using hi) (all_oneCell_toArray h1) ?_
    rw [hd]
    exact wpAny_end hr2 (by simpa [Act.put] using h)
theorem valsCe_oneT (r : Ce) : ∀ u ∈ valsCe r, u.oneCell' = true := by
  intro u hu; simp [valsCe] at hu; rcases hu with rfl | rfl | rfl | rfl | rfl | rfl | rfl | rfl | rfl <;> rfl
theorem bsN {ops : Array Oper} {rest : List Oper} {op : Oper} {a : Act} {w : World} {Q : Exit → Act → World → Prop} (x : Operand) (p : Nr) (hgd : op.guard = none) (ho : op.op = .buildSlice 23 1 #[(0, x)]) (hx : a.eval x = .agg (valsNr p).toArray)
    (h : wpList Tryz.prog ops Q rest (a.put op.dst (.slice (some ⟨w.heap.size, 0, none⟩) 1 1)) (w.alloc (.cells (valsNr p).toArray 38))) : wpList Tryz.prog ops Q (op :: rest) a w :=
  wpList_plain hgd fun _ hK => by
    unfold Oper.wp execOp
    simp only [ho]
    rw [show ((#[(0, x)] : Array (Nat × Operand)).map fun (i, x) => (i, a.eval x)) = #[(0, .agg (valsNr p).toArray)] from by simp [hx]]
    simp only [Sem.run_bind, run_bsN, Result.andThen_ok]
    exact hK _ _ h
def AXN (lo : Nat) : Value → World → Prop := fun v w => ∃ b, v = .pointer (some ⟨b, 0, none⟩) ∧ lo ≤ b ∧ w.heap[b]? = some (.cells (valsNr (nx 0 0 0 false 0)).toArray 38 (0, 0))
theorem AXN.keep {lo rb : Nat} {v : Value} {a b : World} (h : AXN lo v a) (hc : Chg [rb] a b) (hr : rb < lo) : AXN lo v b := let ⟨g, e, h1, h2⟩ := h; ⟨g, e, h1, (hc.block g (ltS h2) (by simp; omega)).trans h2⟩
def Nr.pkN (p : Nr) (q : Pk) : Nr := ⟨{ p.n with pk := q }, p.ca, p.cc, p.ra, p.rc⟩
def Nr.plN (p : Nr) (q : Plc) : Nr := ⟨{ p.n with pl := q }, p.ca, p.cc, p.ra, p.rc⟩
def Nr.ceN (p : Nr) (q : Ce) : Nr := ⟨{ p.n with ce := q }, p.ca, p.cc, p.ra, p.rc⟩
def vals9 (p : Pk) : List Value := [.int .i64 p.w, .int .i64 p.h, .int .i64 p.s, .bool p.fx, .bool p.fy, .bool p.ex, .int .i64 p.an, .int .i64 p.px, .int .i64 p.py]
def valsPlT (p : Plc) : List Value := [.int .i64 p.x, .int .i64 p.y, .int .i64 p.rx, .int .i64 p.ry, .int .i64 p.ww, .int .i64 p.hh, .int .i64 p.qw, .int .i64 p.qh, .int .i64 p.an]
theorem kp_nd {bx : Nat} {p : Nr} {W : World} (hx : XB bx p W) (o : Nat) (vs : List Value) : KpL W (W.setCells bx o vs) :=
  KpL.grown (grown_setCells vs o W (greflS W bx)) (fun g cs' e e' => by cases e'; rw [show W.heap[bx]? = _ from hx] at e; have := Option.some.inj e; simp at this)
theorem kp_rd {B rb n c m : Nat} {A : Option Addr} {W W' : World} (hr : Rd B rb A n c m W) (hc : Chg [rb] W W') : KpL W W' := by
  obtain ⟨q, _, hb⟩ := hr.box
  exact KpL.chg hc hb (fun cs e => by cases e)
theorem wr_full (p q : Nr) : wrAt (valsNr p).toArray 0 (valsNr q) = (valsNr q).toArray := by kernel_rfl
theorem full_setT {w : World} {g : Nat} {p q : Nr} (h : XB g p w) : XB g q (w.setCells g 0 (valsNr q)) := h.sets 0 (valsNr q) (wr_full p q)
set_option maxRecDepth 100000 in
theorem goodTree_any {B rb : Nat} {A : Option Addr} {l c m : Nat} (w : World) (h : Rd B rb A l c m w) (hm : m ≤ 10000) :
    Calls Tryz.prog 68 #[.pointer (some ⟨rb, 0, none⟩)] w fun e w' => (∃ v R, e = .returned (.agg #[v]) ∧ w'.ownsRow w.heap.size 38 34 v R.length (nrvals R) ∧ (∀ p ∈ R, NL w' p ∧ kiL p) ∧ 1 ≤ R.length ∧ R.length ≤ 10) ∧ Rd B rb A l c (m + 8000) w' ∧ Chg [rb] w w' := by
  obtain ⟨ti, tz, ti1, ti2, ti3, ti4, ti5⟩ := nr_info
  have hrw : rb < w.heap.size := h.lt
  have hrB : B ≤ rb := h.base
  have hbr : w.heap.size ≠ rb := by omega
  obtain ⟨bt, hbtE⟩ : ∃ bt, w.heap.size + 1 = bt := ⟨_, rfl⟩
  have hbt : bt ≠ rb := by omega
  go_enter Tryz.func68, Tryz.ntmps68
  go_wp2_with fail
  obtain ⟨W0, hW0⟩ : ∃ W0, (w.alloc (.cells #[.slice none 0 0] 25 (0, 0))).alloc (.cells #[.slice none 0 0] 25 (0, 0)) = W0 := ⟨_, rfl⟩
  have hs0 : bt + 1 = W0.heap.size := by rw [← hW0, ← hbtE]; simp
  have HR0 := Lib.hid (show Rd B rb A l c m W0 by rw [← hW0]; exact (h.alloc _).alloc _)
  have HT0 := Lib.hid (show TrS w w.heap.size w.heap.size bt rb [] (.slice none 0 0) W0 by
    rw [← hW0, ← hbtE]
    exact ⟨(Below.heap_alloc _ _ _ (by simp)).trans (newS w _), newS1T w _ _, World.ownsRow_nil _ _ _ _, (fun p hp => by cases hp), ((Chg.refl [rb] w).alloc _).alloc _⟩)
  rw [hW0, hs0]
  clear hW0 h
  with_reducible refine (one_lit_in 1 10 W0 HR0.out (by omega) (by simp) (by omega) (by omega) (by simp [isIn])).mono ?_
  rintro e w1 ⟨⟨z, rfl, z0, z1⟩, hr1, hc1⟩
  obtain ⟨n, rfl⟩ := Int.eq_ofNat_of_zero_le (show 0 ≤ z by omega)
  have HT1 := Lib.hid (HT0.out.call HR0.out hc1 hrw hbt hbr)
  have HR1 := Lib.hid hr1
  clear hr1 hc1 HR0 HT0 hs0
  go_wp2_with fail
  go_loopw [4] (fun i wr => ∃ (k : Nat) (R : List Nr) (v : Value), i = .int .i64 k ∧ k + R.length = n ∧ TrS w w.heap.size w.heap.size bt rb R v wr ∧ Rd B rb A l c (m + 1 + 700 * R.length) wr) (fun i _ => (intOf i).toNat)
  case atStart => exact ⟨n, [], _, rfl, by simp, HT1.out, HR1.out⟩
  case round =>
    obtain ⟨k, R, v, rfl, hk, ht, hr⟩ := hrel
    clear HT1 HR1
    obtain ⟨a0, c0, rfl⟩ := own_slN ht.own
    have HT := Lib.hid ht
    have HR := Lib.hid hr
    have HBX := Lib.hid ht.box
    have hbtl := ltS ht.box
    clear ht hr
    rcases k with _ | k
    · have hd : decide (((0 : Nat) : Int) > 0) = false := by simp
      have x0 := cellS HT.out.box 0
      have y0 := cellS HT.out.res 0
      have g0 := frozenS HT.out.res 0
      go_wp2
      refine bp_genT (fun W => W.heap[w.heap.size]? = some (.cells #[.slice a0 R.length c0] 25 (0, 0)) ∧ W.ownsRow w.heap.size 38 34 (.slice a0 R.length c0) R.length (nrvals R) ∧ (∀ p ∈ R, NL W p ∧ kiL p) ∧ Rd B rb A l c (m + 8000) W ∧ Chg [rb] w W) ⟨putS HT.out.res _, own_tree HT.out.own HT.out.res _, fun p hp => ⟨(HT.out.lns p hp).1.kp (kp_tree HT.out.res _), (HT.out.lns p hp).2⟩, (HR.out.setCell (p := ⟨w.heap.size, 0, none⟩) (by show B ≤ w.heap.size; omega) hbr _).mono (by omega), HT.out.chg.setCell (p := ⟨w.heap.size, 0, none⟩) (.inr (Nat.le_refl _)) _⟩ ?_
      clear HT HR HBX x0 y0 g0
      rintro W ⟨hz, h1, h2, h3, h4⟩
      have z0 := cellS hz 0
      exact bodyPost_ret (v := .agg #[.slice a0 R.length c0]) (by simp only [results, Tryz.results68]; go_simp) rfl ⟨⟨_, R, rfl, h1, h2, by omega, by omega⟩, h3, h4⟩
    · have hd : decide (((k + 1 : Nat) : Int) > 0) = true := by simp
      have wL : IntKind.i64.wrap ((R.length : Int) - 1) = (R.length : Int) - 1 := IntWalk.i64_in _ (by omega)
      obtain ⟨mR, hmR⟩ : ∃ mR, m + 1 + 700 * R.length = mR := ⟨_, rfl⟩
      rw [hmR] at HR
      have HRO := Lib.hid HR.out
      clear HR
      have hmR2 : mR ≤ 20000 := by omega
      go_wp2_with fail
      refine wp_region_rgp (fun k => ((fun v _ => v = .pointer (some ⟨bt, 0, none⟩)) :: (fun v _ => v = .slice a0 R.length c0) :: (fun v _ => v = .int .i64 (R.length : Int)) :: (fun v _ => v = .int .i64 ((R.length : Int) - 1)) :: (fun v _ => v = .pointer (some ⟨rb, 0, none⟩)) :: (fun v _ => v = .pointer (some ⟨rb, 0, none⟩)) :: (fun v _ => ∃ z : Int, v = .int .i64 z) :: (TL B [rb] 4) :: (fun v _ => ∃ z : Int, v = .int .i64 z) :: (fun v _ => v = .pointer (some ⟨rb, 0, none⟩)) :: (fun v _ => v = .pointer (some ⟨rb, 0, none⟩)) :: (fun v _ => ∃ z : Int, v = .int .i64 z) :: (TL B [rb] 4) :: (fun v _ => ∃ z : Int, v = .int .i64 z) :: (fun v _ => v = .pointer (some ⟨rb, 0, none⟩)) :: (fun v _ => ∃ z : Int, v = .int .i64 z) :: (fun v _ => ∃ b : Bool, v = .bool b) :: (fun v _ => v = .pointer (some ⟨rb, 0, none⟩)) :: (TL B [rb] 4) :: (fun v _ => ∃ z : Int, v = .int .i64 z) :: (fun v _ => ∃ (ww hh : Int) (ke : Bool) (ki : Int), v = .agg (valsNr (nx ((R.length : Int) - 1) ww hh ke ki)).toArray) :: (AXN wr.heap.size) :: []).getD k (fun _ _ => True)) (Chg [rb]) (fun mm w => Rd B rb A l c (mR + mm) w) 22 (by kernel_rfl) (by kernel_rfl) (by kernel_rfl) (fun a => Chg.refl _ a) (fun _ _ _ h k => h.trans k) ?hTs ?hI0 ?hops ?hfin
      case hops =>
        refine ⟨opOK_ds [(3, none)] (by kernel_rfl) rfl ?_, ?_⟩
        · intro mm act w' hm' hR hI h1
          have hk : ∀ v, act.eval (.const v) = v := fun _ => rfl
          have hf : ∀ f, act.eval (.func f) = .func (.func f) #[] #[] := fun _ => rfl
          generalize act.eval = ρ at *
          have hm : mm < 23 := hm'
          replace h1 : ρ (.tmp 3) = .pointer (some ⟨bt, 0, none⟩) := h1
          refine gx_genT (fun K hK => ?_)
          go_simp
          exact hK _ _ ⟨rfl, Chg.refl _ _, hI.mono (by omega)⟩
        refine ⟨opOK_ds [(14, some 0)] (by kernel_rfl) rfl ?_, ?_⟩
        · intro mm act w' hm' hR hI h1
          have hk : ∀ v, act.eval (.const v) = v := fun _ => rfl
          have hf : ∀ f, act.eval (.func f) = .func (.func f) #[] #[] := fun _ => rfl
          generalize act.eval = ρ at *
          have hm : mm < 23 := hm'
          replace h1 : ρ (.tmp 14) = .pointer (some ⟨bt, 0, none⟩) := h1
          refine gx_genT (fun K hK => ?_)
          have d0 := cellS ((hR.block bt (by simpa using hbtl) (by simpa using hbt)).trans HBX.out) 0
          go_simp
          exact hK _ _ ⟨rfl, Chg.refl _ _, hI.mono (by omega)⟩
        refine ⟨opOK_ds [(15, some 1)] (by kernel_rfl) rfl ?_, ?_⟩
        · intro mm act w' hm' hR hI h1
          have hk : ∀ v, act.eval (.const v) = v := fun _ => rfl
          have hf : ∀ f, act.eval (.func f) = .func (.func f) #[] #[] := fun _ => rfl
          generalize act.eval = ρ at *
          have hm : mm < 23 := hm'
          replace h1 : ρ (.tmp 15) = .slice a0 R.length c0 := h1
          refine gx_genT (fun K hK => ?_)
          go_simp
          exact hK _ _ ⟨rfl, Chg.refl _ _, hI.mono (by omega)⟩
        refine ⟨opOK_ds [(16, some 2)] (by kernel_rfl) rfl ?_, ?_⟩
        · intro mm act w' hm' hR hI h1
          have hk : ∀ v, act.eval (.const v) = v := fun _ => rfl
          have hf : ∀ f, act.eval (.func f) = .func (.func f) #[] #[] := fun _ => rfl
          generalize act.eval = ρ at *
          have hm : mm < 23 := hm'
          replace h1 : ρ (.tmp 16) = .int .i64 (R.length : Int) := h1
          refine gx_genT (fun K hK => ?_)
          go_simp
          exact hK _ _ ⟨rfl, Chg.refl _ _, hI.mono (by omega)⟩
        refine ⟨opOK_ds [(0, none)] (by kernel_rfl) rfl ?_, ?_⟩
        · intro mm act w' hm' hR hI h1
          have hk : ∀ v, act.eval (.const v) = v := fun _ => rfl
          have hf : ∀ f, act.eval (.func f) = .func (.func f) #[] #[] := fun _ => rfl
          generalize act.eval = ρ at *
          have hm : mm < 23 := hm'
          replace h1 : ρ (.tmp 0) = .pointer (some ⟨rb, 0, none⟩) := h1
          refine gx_genT (fun K hK => ?_)
          go_simp
          exact hK _ _ ⟨rfl, Chg.refl _ _, hI.mono (by omega)⟩
        refine ⟨opOK_ds [(0, none)] (by kernel_rfl) rfl ?_, ?_⟩
        · intro mm act w' hm' hR hI h1
          have hk : ∀ v, act.eval (.const v) = v := fun _ => rfl
          have hf : ∀ f, act.eval (.func f) = .func (.func f) #[] #[] := fun _ => rfl
          generalize act.eval = ρ at *
          have hm : mm < 23 := hm'
          replace h1 : ρ (.tmp 0) = .pointer (some ⟨rb, 0, none⟩) := h1
          refine gx_genT (fun K hK => ?_)
          go_simp
          exact hK _ _ ⟨rfl, Chg.refl _ _, hI.mono (by omega)⟩
        refine ⟨opOK_ds [(19, some 5)] (by kernel_rfl) rfl ?_, ?_⟩
        · intro mm act w' hm' hR hI h1
          have hk : ∀ v, act.eval (.const v) = v := fun _ => rfl
          have hf : ∀ f, act.eval (.func f) = .func (.func f) #[] #[] := fun _ => rfl
          generalize act.eval = ρ at *
          have hm : mm < 23 := hm'
          replace h1 : ρ (.tmp 19) = .pointer (some ⟨rb, 0, none⟩) := h1
          refine gx_genT (fun K hK => ?_)
          go_simp
          with_reducible refine (pick_any _ _ hI (by omega)).mono ?_
          rintro e w1 ⟨⟨z, rfl, -⟩, hr, hc⟩
          exact ⟨_, rfl, hK _ _ ⟨⟨z, rfl⟩, hc, hr.mono (by omega)⟩⟩
        refine ⟨opOK_ds [(20, some 6)] (by kernel_rfl) rfl ?_, ?_⟩
        · intro mm act w' hm' hR hI h1
          have hk : ∀ v, act.eval (.const v) = v := fun _ => rfl
          have hf : ∀ f, act.eval (.func f) = .func (.func f) #[] #[] := fun _ => rfl
          generalize act.eval = ρ at *
          have hm : mm < 23 := hm'
          replace h1 : (fun v _ => ∃ z : Int, v = .int .i64 z) (ρ (.tmp 20)) w' := h1
          refine gx_genT (fun K hK => ?_)
          have hrl := hI.lt
          obtain ⟨z1, h1⟩ := h1
          go_simp
          exact hK _ _ ⟨TL.lit (by omega) (by simp; omega) (by simp) (by simp [isI]), (Chg.refl _ _).alloc _, (hI.alloc _).mono (by omega)⟩
        refine ⟨opOK_ds [(18, some 4), (21, some 7)] (by kernel_rfl) rfl ?_, ?_⟩
        · intro mm act w' hm' hR hI h1 h2
          have hk : ∀ v, act.eval (.const v) = v := fun _ => rfl
          have hf : ∀ f, act.eval (.func f) = .func (.func f) #[] #[] := fun _ => rfl
          generalize act.eval = ρ at *
          have hm : mm < 23 := hm'
          replace h1 : ρ (.tmp 18) = .pointer (some ⟨rb, 0, none⟩) := h1
          replace h2 : (TL B [rb] 4) (ρ (.tmp 21)) w' := h2
          refine gx_genT (fun K hK => ?_)
          go_simp
          with_reducible refine (one_any _ hI (by omega) h2 (by omega) (by omega)).mono ?_
          rintro e w1 ⟨⟨z, rfl⟩, hr, hc⟩
          exact ⟨_, rfl, hK _ _ ⟨⟨z, rfl⟩, hc, hr.mono (by omega)⟩⟩
        refine ⟨opOK_ds [(0, none)] (by kernel_rfl) rfl ?_, ?_⟩
        · intro mm act w' hm' hR hI h1
          have hk : ∀ v, act.eval (.const v) = v := fun _ => rfl
          have hf : ∀ f, act.eval (.func f) = .func (.func f) #[] #[] := fun _ => rfl
          generalize act.eval = ρ at *
          have hm : mm < 23 := hm'
          replace h1 : ρ (.tmp 0) = .pointer (some ⟨rb, 0, none⟩) := h1
          refine gx_genT (fun K hK => ?_)
          go_simp
          exact hK _ _ ⟨rfl, Chg.refl _ _, hI.mono (by omega)⟩
        refine ⟨opOK_ds [(0, none)] (by kernel_rfl) rfl ?_, ?_⟩
        · intro mm act w' hm' hR hI h1
          have hk : ∀ v, act.eval (.const v) = v := fun _ => rfl
          have hf : ∀ f, act.eval (.func f) = .func (.func f) #[] #[] := fun _ => rfl
          generalize act.eval = ρ at *
          have hm : mm < 23 := hm'
          replace h1 : ρ (.tmp 0) = .pointer (some ⟨rb, 0, none⟩) := h1
          refine gx_genT (fun K hK => ?_)
          go_simp
          exact hK _ _ ⟨rfl, Chg.refl _ _, hI.mono (by omega)⟩
        refine ⟨opOK_ds [(24, some 10)] (by kernel_rfl) rfl ?_, ?_⟩
        · intro mm act w' hm' hR hI h1
          have hk : ∀ v, act.eval (.const v) = v := fun _ => rfl
          have hf : ∀ f, act.eval (.func f) = .func (.func f) #[] #[] := fun _ => rfl
          generalize act.eval = ρ at *
          have hm : mm < 23 := hm'
          replace h1 : ρ (.tmp 24) = .pointer (some ⟨rb, 0, none⟩) := h1
          refine gx_genT (fun K hK => ?_)
          go_simp
          with_reducible refine (pick_any _ _ hI (by omega)).mono ?_
          rintro e w1 ⟨⟨z, rfl, -⟩, hr, hc⟩
          exact ⟨_, rfl, hK _ _ ⟨⟨z, rfl⟩, hc, hr.mono (by omega)⟩⟩
        refine ⟨opOK_ds [(25, some 11)] (by kernel_rfl) rfl ?_, ?_⟩
        · intro mm act w' hm' hR hI h1
          have hk : ∀ v, act.eval (.const v) = v := fun _ => rfl
          have hf : ∀ f, act.eval (.func f) = .func (.func f) #[] #[] := fun _ => rfl
          generalize act.eval = ρ at *
          have hm : mm < 23 := hm'
          replace h1 : (fun v _ => ∃ z : Int, v = .int .i64 z) (ρ (.tmp 25)) w' := h1
          refine gx_genT (fun K hK => ?_)
          have hrl := hI.lt
          obtain ⟨z1, h1⟩ := h1
          go_simp
          exact hK _ _ ⟨TL.lit (by omega) (by simp; omega) (by simp) (by simp [isI]), (Chg.refl _ _).alloc _, (hI.alloc _).mono (by omega)⟩
        refine ⟨opOK_ds [(23, some 9), (26, some 12)] (by kernel_rfl) rfl ?_, ?_⟩
        · intro mm act w' hm' hR hI h1 h2
          have hk : ∀ v, act.eval (.const v) = v := fun _ => rfl
          have hf : ∀ f, act.eval (.func f) = .func (.func f) #[] #[] := fun _ => rfl
          generalize act.eval = ρ at *
          have hm : mm < 23 := hm'
          replace h1 : ρ (.tmp 23) = .pointer (some ⟨rb, 0, none⟩) := h1
          replace h2 : (TL B [rb] 4) (ρ (.tmp 26)) w' := h2
          refine gx_genT (fun K hK => ?_)
          go_simp
          with_reducible refine (one_any _ hI (by omega) h2 (by omega) (by omega)).mono ?_
          rintro e w1 ⟨⟨z, rfl⟩, hr, hc⟩
          exact ⟨_, rfl, hK _ _ ⟨⟨z, rfl⟩, hc, hr.mono (by omega)⟩⟩
        refine ⟨opOK_ds [(0, none)] (by kernel_rfl) rfl ?_, ?_⟩
        · intro mm act w' hm' hR hI h1
          have hk : ∀ v, act.eval (.const v) = v := fun _ => rfl
          have hf : ∀ f, act.eval (.func f) = .func (.func f) #[] #[] := fun _ => rfl
          generalize act.eval = ρ at *
          have hm : mm < 23 := hm'
          replace h1 : ρ (.tmp 0) = .pointer (some ⟨rb, 0, none⟩) := h1
          refine gx_genT (fun K hK => ?_)
          go_simp
          exact hK _ _ ⟨rfl, Chg.refl _ _, hI.mono (by omega)⟩
        refine ⟨opOK_ds [(28, some 14)] (by kernel_rfl) rfl ?_, ?_⟩
        · intro mm act w' hm' hR hI h1
          have hk : ∀ v, act.eval (.const v) = v := fun _ => rfl
          have hf : ∀ f, act.eval (.func f) = .func (.func f) #[] #[] := fun _ => rfl
          generalize act.eval = ρ at *
          have hm : mm < 23 := hm'
          replace h1 : ρ (.tmp 28) = .pointer (some ⟨rb, 0, none⟩) := h1
          refine gx_genT (fun K hK => ?_)
          go_simp
          with_reducible refine (pick_any _ _ hI (by omega)).mono ?_
          rintro e w1 ⟨⟨z, rfl, -⟩, hr, hc⟩
          exact ⟨_, rfl, hK _ _ ⟨⟨z, rfl⟩, hc, hr.mono (by omega)⟩⟩
        refine ⟨opOK_ds [(29, some 15)] (by kernel_rfl) rfl ?_, ?_⟩
        · intro mm act w' hm' hR hI h1
          have hk : ∀ v, act.eval (.const v) = v := fun _ => rfl
          have hf : ∀ f, act.eval (.func f) = .func (.func f) #[] #[] := fun _ => rfl
          generalize act.eval = ρ at *
          have hm : mm < 23 := hm'
          replace h1 : (fun v _ => ∃ z : Int, v = .int .i64 z) (ρ (.tmp 29)) w' := h1
          refine gx_genT (fun K hK => ?_)
          obtain ⟨z1, h1⟩ := h1
          go_simp
          exact hK _ _ ⟨⟨_, rfl⟩, Chg.refl _ _, hI.mono (by omega)⟩
        refine ⟨opOK_ds [(0, none)] (by kernel_rfl) rfl ?_, ?_⟩
        · intro mm act w' hm' hR hI h1
          have hk : ∀ v, act.eval (.const v) = v := fun _ => rfl
          have hf : ∀ f, act.eval (.func f) = .func (.func f) #[] #[] := fun _ => rfl
          generalize act.eval = ρ at *
          have hm : mm < 23 := hm'
          replace h1 : ρ (.tmp 0) = .pointer (some ⟨rb, 0, none⟩) := h1
          refine gx_genT (fun K hK => ?_)
          go_simp
          exact hK _ _ ⟨rfl, Chg.refl _ _, hI.mono (by omega)⟩
        refine ⟨opOK_ds [] (by kernel_rfl) rfl ?_, ?_⟩
        · intro mm act w' hm' hR hI 
          have hk : ∀ v, act.eval (.const v) = v := fun _ => rfl
          have hf : ∀ f, act.eval (.func f) = .func (.func f) #[] #[] := fun _ => rfl
          generalize act.eval = ρ at *
          have hm : mm < 23 := hm'
          refine gx_genT (fun K hK => ?_)
          have hrl := hI.lt
          go_simp
          exact hK _ _ ⟨TL.lit (by omega) (by simp; omega) (by simp) (by simp [isI]), (Chg.refl _ _).alloc _, (hI.alloc _).mono (by omega)⟩
        refine ⟨opOK_ds [(31, some 17), (32, some 18)] (by kernel_rfl) rfl ?_, ?_⟩
        · intro mm act w' hm' hR hI h1 h2
          have hk : ∀ v, act.eval (.const v) = v := fun _ => rfl
          have hf : ∀ f, act.eval (.func f) = .func (.func f) #[] #[] := fun _ => rfl
          generalize act.eval = ρ at *
          have hm : mm < 23 := hm'
          replace h1 : ρ (.tmp 31) = .pointer (some ⟨rb, 0, none⟩) := h1
          replace h2 : (TL B [rb] 4) (ρ (.tmp 32)) w' := h2
          refine gx_genT (fun K hK => ?_)
          go_simp
          with_reducible refine (one_any _ hI (by omega) h2 (by omega) (by omega)).mono ?_
          rintro e w1 ⟨⟨z, rfl⟩, hr, hc⟩
          exact ⟨_, rfl, hK _ _ ⟨⟨z, rfl⟩, hc, hr.mono (by omega)⟩⟩
        refine ⟨opOK_ds [(17, some 3), (22, some 8), (27, some 13), (30, some 16), (33, some 19)] (by kernel_rfl) rfl ?_, ?_⟩
        · intro mm act w' hm' hR hI h1 h2 h3 h4 h5
          have hk : ∀ v, act.eval (.const v) = v := fun _ => rfl
          have hf : ∀ f, act.eval (.func f) = .func (.func f) #[] #[] := fun _ => rfl
          generalize act.eval = ρ at *
          have hm : mm < 23 := hm'
          replace h1 : ρ (.tmp 17) = .int .i64 ((R.length : Int) - 1) := h1
          replace h2 : (fun v _ => ∃ z : Int, v = .int .i64 z) (ρ (.tmp 22)) w' := h2
          replace h3 : (fun v _ => ∃ z : Int, v = .int .i64 z) (ρ (.tmp 27)) w' := h3
          replace h4 : (fun v _ => ∃ b : Bool, v = .bool b) (ρ (.tmp 30)) w' := h4
          replace h5 : (fun v _ => ∃ z : Int, v = .int .i64 z) (ρ (.tmp 33)) w' := h5
          refine gx_genT (fun K hK => ?_)
          obtain ⟨z2, h2⟩ := h2
          obtain ⟨z3, h3⟩ := h3
          obtain ⟨z4, h4⟩ := h4
          obtain ⟨z5, h5⟩ := h5
          have hbn := run_bN ((R.length : Int) - 1) z2 z3 z4 z5 w'
          go_simp
          exact hK _ _ ⟨⟨z2, z3, z4, z5, rfl⟩, Chg.refl _ _, hI.mono (by omega)⟩
        refine ⟨opOK_ds [] (by kernel_rfl) rfl ?_, ?_⟩
        · intro mm act w' hm' hR hI 
          have hk : ∀ v, act.eval (.const v) = v := fun _ => rfl
          have hf : ∀ f, act.eval (.func f) = .func (.func f) #[] #[] := fun _ => rfl
          generalize act.eval = ρ at *
          have hm : mm < 23 := hm'
          refine gx_genT (fun K hK => ?_)
          have hsr := hR.size
          go_simp
          exact hK _ _ ⟨⟨_, rfl, hsr, newS w' (.cells (valsNr (nx 0 0 0 false 0)).toArray 38)⟩, (Chg.refl _ _).alloc _, (hI.alloc _).mono (by omega)⟩
        exact trivial
      case hTs =>
        intro k v x y hv hc
        exact stab_listT (by
          intro T hT
          simp only [List.mem_cons, List.not_mem_nil, or_false] at hT
          rcases hT with rfl | rfl | rfl | rfl | rfl | rfl | rfl | rfl | rfl | rfl | rfl | rfl | rfl | rfl | rfl | rfl | rfl | rfl | rfl | rfl | rfl | rfl <;> first | exact fun v a b h _ => h | exact fun v a b h hc => AXN.keep h hc (by omega) | exact fun v a b h hc => TL.keep h hc)
          k v x y hv hc
      case hI0 => exact (HRO.out.drew).mono (by omega)
      case hfin =>
        intro w6 hR6 hI6
        intro v14 t14 v15 t15 v16 t16 v17 t17 v18 t18 v19 t19 v20 t20 v21 t21 v22 t22 v23 t23 v24 t24 v25 t25 v26 t26 v27 t27 v28 t28 v29 t29 v30 t30 v31 t31 v32 t32 v33 t33 v34 t34 v5 t5
        obtain ⟨ww, hh, ke, ki, rfl⟩ : ∃ (ww hh : Int) (ke : Bool) (ki : Int), v34 = .agg (valsNr (nx ((R.length : Int) - 1) ww hh ke ki)).toArray := t34
        obtain ⟨bx, rfl, hbxl, hx⟩ : AXN wr.heap.size v5 w6 := t5
        clear t14 t15 t16 t17 t18 t19 t20 t21 t22 t23 t24 t25 t26 t27 t28 t29 t30 t31 t32 t33
        simp only [List.take, finP, Act.put, List.setIfInBounds_toArray, List.set_cons_succ, List.set_cons_zero]
        have hown : ∀ q, (.slice a0 R.length c0 : Value).ownBlock = some q → q ≠ bx := fun q hq => by have := HT.out.own.lt q hq; omega
        have HR := Lib.hid (show Rd B rb A l c (mR + 22) w6 from hI6)
        have HT := Lib.hid (HT.out.drew.call HRO.out.drew hR6 hrw hbt hbr)
        have HX := Lib.hid (show XB bx (nx 0 0 0 false 0) w6 from hx)
        have hbx1 : bt ≠ bx := by omega
        have hbx2 : w.heap.size ≠ bx := by omega
        have hbx3 : w.heap.size ≤ bx := by omega
        have hbx4 : bx ≠ rb := by omega
        have hbx5 : B ≤ bx := by omega
        clear hR6 hI6 HRO HBX hbtl hx hbxl
        refine wpAny_storeT 22 38 (.tmp 5) (.tmp 34) bx 0 (valsNr (nx ((R.length : Int) - 1) ww hh ke ki)) (by kernel_rfl) (by kernel_rfl) (by kernel_rfl) rfl rfl (thereB HX.out (by simp [valsNr])) (by kernel_rfl) (valsNr_one _) ?_
        refine wp_PT (fun W => XB bx (nx ((R.length : Int) - 1) ww hh ke ki) W ∧ TrS w w.heap.size w.heap.size bt rb R (.slice a0 R.length c0) W ∧ Rd B rb A l c (mR + 22) W) ⟨full_setT HX.out, HT.out.sets HX.out hbx1 hbx2 hbx3 hown 0 _, HR.out.sets hbx5 hbx4 0 _⟩ ?_
        clear HX HT HR
        rintro W8 ⟨hx, ht, hr⟩
        have HX := Lib.hid hx
        have HT := Lib.hid ht
        have HR := Lib.hid hr
        clear hx ht hr w6
        have cb0 := cellS HT.out.box 0
        go_upto_if 38 with (fail)
        go_cut [4] (fun iv wx => iv = .int .i64 (((k + 1 : Nat) : Int)) ∧ ∃ pa : Int, XB bx (nx pa ww hh ke ki) wx ∧ TrS w w.heap.size w.heap.size bt rb R (.slice a0 R.length c0) wx ∧ Rd B rb A l c (mR + 24) wx ∧ ((R.length = 0 ∧ pa = -1) ∨ (0 ≤ pa ∧ pa < R.length)))
        case first =>
          by_cases h0 : R.length = 0
          · have hg : decide ((R.length : Int) > 0) = false := decide_eq_false (by omega)
            go_wp2
            go_meet
            exact ⟨rfl, _, HX.out, HT.out, HR.out.mono (by omega), .inl ⟨h0, by omega⟩⟩
          · have hg : decide ((R.length : Int) > 0) = true := decide_eq_true (by omega)
            go_wp2_with fail
            with_reducible refine (pick_any _ _ HR.out (by omega)).mono ?_
            rintro e w7 ⟨⟨z, rfl, hz⟩, hr, hc⟩
            obtain ⟨z0, z1⟩ := hz (by omega)
            have HX2 := Lib.hid (HX.out.call hc hbx4)
            have HT2 := Lib.hid (HT.out.call HR.out hc hrw hbt hbr)
            have HR2 := Lib.hid hr
            clear hr hc hz cb0
            have d0 := HX2.out.cell 0
            simp only [valsNr, nx] at d0
            have f0 := HX2.out.frz 0
            go_upto_region 8 with (fail)
            refine wp_PT (fun W => XB bx (nx z ww hh ke ki) W ∧ TrS w w.heap.size w.heap.size bt rb R (.slice a0 R.length c0) W ∧ Rd B rb A l c (mR + 23) W) ⟨HX2.out.sets 0 [.int .i64 z] (by kernel_rfl), HT2.out.sets HX2.out hbx1 hbx2 hbx3 hown 0 [.int .i64 z], HR2.out.sets hbx5 hbx4 0 [.int .i64 z]⟩ ?_
            rintro W9 ⟨hx, ht, hr⟩
            have HX3 := Lib.hid hx
            have HT3 := Lib.hid ht
            clear hx ht d0 f0 HX2 HT2 HR2
            go_wp2_with fail
            with_reducible refine (pick_any _ _ hr (by omega)).mono ?_
            rintro e w8 ⟨⟨q, rfl, -⟩, hr8, hc⟩
            have HX4 := Lib.hid (HX3.out.call hc hbx4)
            have HT4 := Lib.hid (HT3.out.call hr hc hrw hbt hbr)
            have HR4 := Lib.hid hr8
            clear hr hr8 hc HX3 HT3
            by_cases hq : q = 0
            · subst hq
              have d0 := HX4.out.cell 0
              simp only [valsNr, nx] at d0
              have f0 := HX4.out.frz 0
              go_wp2
              go_meet
              exact ⟨rfl, 0, HX4.out.sets 0 [.int .i64 0] (by kernel_rfl), HT4.out.sets HX4.out hbx1 hbx2 hbx3 hown 0 [.int .i64 0], HR4.out.sets hbx5 hbx4 0 [.int .i64 0], .inr ⟨by omega, by omega⟩⟩
            · have hqb : (q == 0) = false := by simpa using hq
              go_wp2
              go_meet
              exact ⟨rfl, z, HX4.out, HT4.out, HR4.out, .inr ⟨z0, z1⟩⟩
        case rest =>
        obtain ⟨hiv, pa, hx, ht, hr, hpa⟩ := hcut
        subst hiv
        have HX := Lib.hid hx
        have HT := Lib.hid ht
        have HR := Lib.hid hr
        have HPA := Lib.hid hpa
        clear hx ht hr hpa cb0
        have d4 := HX.out.cell 4
        simp only [valsNr, nx] at d4
        go_upto_if 51 with (fail)
        go_cut [4] (fun iv wx => iv = .int .i64 (((k + 1 : Nat) : Int)) ∧ ∃ p : Nr, p.n.pa = pa ∧ kiL p ∧ XB bx p wx ∧ TrS w w.heap.size w.heap.size bt rb R (.slice a0 R.length c0) wx ∧ Rd B rb A l c (mR + 64) wx ∧ NL wx p)
        case first =>
          by_cases hki : ki = 1
          · subst hki
            clear d4
            go_wp2_with fail
            with_reducible refine (goodLines_any _ HR.out (by omega)).mono ?_
            rintro e w7 ⟨⟨v1, L1, rfl, ho1, l1, l5⟩, hr, hc⟩
            obtain ⟨A1, cc1, rfl, hcc1, hk1⟩ := LnK.own ho1 rfl
            have HX2 := Lib.hid (HX.out.call hc hbx4)
            have HT2 := Lib.hid (HT.out.call HR.out hc hrw hbt hbr)
            have HR2 := Lib.hid hr
            have HK1 := Lib.hid hk1
            clear hr hc ho1 hk1
            have d5 := HX2.out.cell 5
            simp only [valsNr, nx] at d5
            have f5 := HX2.out.frz 5
            go_upto_region 12 with (fail)
            refine wp_PT (fun W => XB bx ⟨{ (nx pa ww hh ke 1).n with cs := L1 }, A1, cc1, none, 0⟩ W ∧ TrS w w.heap.size w.heap.size bt rb R (.slice a0 R.length c0) W ∧ Rd B rb A l c (mR + 44) W ∧ LnK W A1 L1) ⟨HX2.out.sets 5 [.slice A1 L1.length cc1] (by kernel_rfl), HT2.out.sets HX2.out hbx1 hbx2 hbx3 hown 5 [.slice A1 L1.length cc1], HR2.out.sets hbx5 hbx4 5 [.slice A1 L1.length cc1], HK1.out.kp (kp_nd HX2.out 5 [.slice A1 L1.length cc1])⟩ ?_
            rintro W9 ⟨hx, ht, hr, hk1⟩
            have HX3 := Lib.hid hx
            have HT3 := Lib.hid ht
            replace HK1 := Lib.hid hk1
            clear hx ht d5 f5 HX2 HT2 HR2 hk1
            go_wp2_with fail
            with_reducible refine (goodLines_any _ hr (by omega)).mono ?_
            rintro e w8 ⟨⟨v2, L2, rfl, ho2, l1', l5'⟩, hr8, hc⟩
            obtain ⟨A2, cc2, rfl, hcc2, hk2⟩ := LnK.own ho2 rfl
            have HX4 := Lib.hid (HX3.out.call hc hbx4)
            have HT4 := Lib.hid (HT3.out.call hr hc hrw hbt hbr)
            have HR4 := Lib.hid hr8
            have HK2 := Lib.hid hk2
            replace HK1 := Lib.hid (HK1.out.kp (kp_rd hr hc))
            clear hr hr8 hc ho2 hk2 HX3 HT3
            have d6 := HX4.out.cell 6
            simp only [valsNr, nx] at d6
            have f6 := HX4.out.frz 6
            go_wp2
            go_meet
            exact ⟨rfl, ⟨{ (nx pa ww hh ke 1).n with cs := L1, rs := L2 }, A1, cc1, A2, cc2⟩, rfl, fun _ => ⟨l1, l1'⟩, HX4.out.sets 6 [.slice A2 L2.length cc2] (by kernel_rfl), HT4.out.sets HX4.out hbx1 hbx2 hbx3 hown 6 [.slice A2 L2.length cc2], HR4.out.sets hbx5 hbx4 6 [.slice A2 L2.length cc2], ⟨HK1.out.kp (kp_nd HX4.out 6 [.slice A2 L2.length cc2]), HK2.out.kp (kp_nd HX4.out 6 [.slice A2 L2.length cc2]), hcc1, hcc2, l5, l5'⟩⟩
          · have hkb : (ki == 1) = false := by simpa using hki
            go_wp2
            go_meet
            exact ⟨rfl, nx pa ww hh ke ki, rfl, fun h => absurd h hki, HX.out, HT.out, HR.out.mono (by omega), ⟨.inl rfl, .inl rfl, Nat.le_refl _, Nat.le_refl _, by simp [nx], by simp [nx]⟩⟩
        case rest =>
        obtain ⟨hiv, p, hpp, hkl, hx, ht, hr, hn⟩ := hcut
        subst hiv
        replace HX := Lib.hid hx
        replace HT := Lib.hid ht
        replace HR := Lib.hid hr
        have HNL := Lib.hid hn
        have HKL := Lib.hid hkl
        have HPP := Lib.hid hpp
        clear hx ht hr hn hkl hpp d4
        go_wp2_with fail
        with_reducible refine (goodPack_any _ HR.out (by omega)).mono ?_
        rintro e w9 ⟨⟨g0, g1, g2, g3, g4, g5, g6, g7, g8, rfl⟩, hr, hc⟩
        replace HX := Lib.hid (HX.out.call hc hbx4)
        replace HT := Lib.hid (HT.out.call HR.out hc hrw hbt hbr)
        replace HNL := Lib.hid (HNL.out.call HR.out hc)
        replace HR := Lib.hid hr
        clear hr hc
        have d7 := HX.out.cell 7
        simp only [valsNr, nx, Nr.pkN, Nr.plN, Nr.ceN] at d7
        have f7 := HX.out.frz 7
        have d8 := HX.out.cell 8
        simp only [valsNr, nx, Nr.pkN, Nr.plN, Nr.ceN] at d8
        have f8 := HX.out.frz 8
        have d9 := HX.out.cell 9
        simp only [valsNr, nx, Nr.pkN, Nr.plN, Nr.ceN] at d9
        have f9 := HX.out.frz 9
        have d10 := HX.out.cell 10
        simp only [valsNr, nx, Nr.pkN, Nr.plN, Nr.ceN] at d10
        have f10 := HX.out.frz 10
        have d11 := HX.out.cell 11
        simp only [valsNr, nx, Nr.pkN, Nr.plN, Nr.ceN] at d11
        have f11 := HX.out.frz 11
        have d12 := HX.out.cell 12
        simp only [valsNr, nx, Nr.pkN, Nr.plN, Nr.ceN] at d12
        have f12 := HX.out.frz 12
        have d13 := HX.out.cell 13
        simp only [valsNr, nx, Nr.pkN, Nr.plN, Nr.ceN] at d13
        have f13 := HX.out.frz 13
        have d14 := HX.out.cell 14
        simp only [valsNr, nx, Nr.pkN, Nr.plN, Nr.ceN] at d14
        have f14 := HX.out.frz 14
        have d15 := HX.out.cell 15
        simp only [valsNr, nx, Nr.pkN, Nr.plN, Nr.ceN] at d15
        have f15 := HX.out.frz 15
        go_upto_region 14 with (fail)
        refine wp_PT (fun W => XB bx (p.pkN ⟨g0, g1, g2, g3, g4, g5, g6, g7, g8⟩) W ∧ TrS w w.heap.size w.heap.size bt rb R (.slice a0 R.length c0) W ∧ Rd B rb A l c (mR + 84) W ∧ NL W p) ⟨HX.out.sets 7 (vals9 ⟨g0, g1, g2, g3, g4, g5, g6, g7, g8⟩) (by kernel_rfl), HT.out.sets HX.out hbx1 hbx2 hbx3 hown 7 (vals9 ⟨g0, g1, g2, g3, g4, g5, g6, g7, g8⟩), HR.out.sets hbx5 hbx4 7 (vals9 ⟨g0, g1, g2, g3, g4, g5, g6, g7, g8⟩), HNL.out.sets HX.out 7 (vals9 ⟨g0, g1, g2, g3, g4, g5, g6, g7, g8⟩)⟩ ?_
        clear HX HT HR HNL d7 f7 d8 f8 d9 f9 d10 f10 d11 f11 d12 f12 d13 f13 d14 f14 d15 f15
        rintro WA ⟨hx, ht, hr, hn⟩
        have HX := Lib.hid hx
        have HT := Lib.hid ht
        have HR := Lib.hid hr
        have HNL := Lib.hid hn
        clear hx ht hr hn
        have d7 := HX.out.cell 7
        simp only [valsNr, nx, Nr.pkN, Nr.plN, Nr.ceN] at d7
        have f7 := HX.out.frz 7
        have d8 := HX.out.cell 8
        simp only [valsNr, nx, Nr.pkN, Nr.plN, Nr.ceN] at d8
        have f8 := HX.out.frz 8
        go_upto_region 16 with (fail)
        refine wp_PT (fun W => XB bx (p.pkN ⟨0, 0, g2, g3, g4, g5, g6, g7, g8⟩) W ∧ TrS w w.heap.size w.heap.size bt rb R (.slice a0 R.length c0) W ∧ Rd B rb A l c (mR + 84) W ∧ NL W p) ⟨HX.out.sets 7 [.int .i64 0, .int .i64 0] (by kernel_rfl), HT.out.sets HX.out hbx1 hbx2 hbx3 hown 7 [.int .i64 0, .int .i64 0], HR.out.sets hbx5 hbx4 7 [.int .i64 0, .int .i64 0], HNL.out.sets HX.out 7 [.int .i64 0, .int .i64 0]⟩ ?_
        clear HX HT HR HNL d7 f7 d8 f8
        rintro WB ⟨hx, ht, hr, hn⟩
        have HX := Lib.hid hx
        have HT := Lib.hid ht
        have HR := Lib.hid hr
        have HNL := Lib.hid hn
        clear hx ht hr hn
        go_wp2_with fail
        with_reducible refine (goodPlace_any _ HR.out (by omega)).mono ?_
        rintro e wC ⟨⟨y0, y1, y2, y3, y4, y5, y6, y7, y8, rfl⟩, hr, hc⟩
        replace HX := Lib.hid (HX.out.call hc hbx4)
        replace HT := Lib.hid (HT.out.call HR.out hc hrw hbt hbr)
        replace HNL := Lib.hid (HNL.out.call HR.out hc)
        replace HR := Lib.hid hr
        clear hr hc
        have d25 := HX.out.cell 25
        simp only [valsNr, nx, Nr.pkN, Nr.plN, Nr.ceN] at d25
        have f25 := HX.out.frz 25
        have d26 := HX.out.cell 26
        simp only [valsNr, nx, Nr.pkN, Nr.plN, Nr.ceN] at d26
        have f26 := HX.out.frz 26
        have d27 := HX.out.cell 27
        simp only [valsNr, nx, Nr.pkN, Nr.plN, Nr.ceN] at d27
        have f27 := HX.out.frz 27
        have d28 := HX.out.cell 28
        simp only [valsNr, nx, Nr.pkN, Nr.plN, Nr.ceN] at d28
        have f28 := HX.out.frz 28
        have d29 := HX.out.cell 29
        simp only [valsNr, nx, Nr.pkN, Nr.plN, Nr.ceN] at d29
        have f29 := HX.out.frz 29
        have d30 := HX.out.cell 30
        simp only [valsNr, nx, Nr.pkN, Nr.plN, Nr.ceN] at d30
        have f30 := HX.out.frz 30
        have d31 := HX.out.cell 31
        simp only [valsNr, nx, Nr.pkN, Nr.plN, Nr.ceN] at d31
        have f31 := HX.out.frz 31
        have d32 := HX.out.cell 32
        simp only [valsNr, nx, Nr.pkN, Nr.plN, Nr.ceN] at d32
        have f32 := HX.out.frz 32
        have d33 := HX.out.cell 33
        simp only [valsNr, nx, Nr.pkN, Nr.plN, Nr.ceN] at d33
        have f33 := HX.out.frz 33
        go_upto_region 17 with (fail)
        refine wp_PT (fun W => XB bx ((p.pkN ⟨0, 0, g2, g3, g4, g5, g6, g7, g8⟩).plN ⟨y0, y1, y2, y3, y4, y5, y6, y7, y8⟩) W ∧ TrS w w.heap.size w.heap.size bt rb R (.slice a0 R.length c0) W ∧ Rd B rb A l c (mR + 94) W ∧ NL W p) ⟨HX.out.sets 25 (valsPlT ⟨y0, y1, y2, y3, y4, y5, y6, y7, y8⟩) (by kernel_rfl), HT.out.sets HX.out hbx1 hbx2 hbx3 hown 25 (valsPlT ⟨y0, y1, y2, y3, y4, y5, y6, y7, y8⟩), HR.out.sets hbx5 hbx4 25 (valsPlT ⟨y0, y1, y2, y3, y4, y5, y6, y7, y8⟩), HNL.out.sets HX.out 25 (valsPlT ⟨y0, y1, y2, y3, y4, y5, y6, y7, y8⟩)⟩ ?_
        clear HX HT HR HNL d25 f25 d26 f26 d27 f27 d28 f28 d29 f29 d30 f30 d31 f31 d32 f32 d33 f33
        rintro WD ⟨hx, ht, hr, hn⟩
        have HX := Lib.hid hx
        have HT := Lib.hid ht
        have HR := Lib.hid hr
        have HNL := Lib.hid hn
        clear hx ht hr hn
        obtain ⟨pq, hpq⟩ : ∃ pq, (p.pkN ⟨0, 0, g2, g3, g4, g5, g6, g7, g8⟩).plN ⟨y0, y1, y2, y3, y4, y5, y6, y7, y8⟩ = pq := ⟨_, rfl⟩
        have hpqa : pq.n.pa = pa := by rw [← hpq]; exact HPP.out
        replace HNL := Lib.hid (show NL WD pq by rw [← hpq]; exact ⟨HNL.out.c, HNL.out.r, HNL.out.cl, HNL.out.rl, HNL.out.c5, HNL.out.r5⟩)
        replace HKL := Lib.hid (show kiL pq by rw [← hpq]; exact HKL.out)
        rw [hpq] at HX
        clear hpq HPP
        have d0 : WD.cell? ⟨bx, 0, none⟩ = some (.int .i64 pa) := (HX.out.cell 0).trans (by rw [← hpqa]; rfl)
        have HPQ := Lib.hid hpqa
        have cb0 := cellS HT.out.box 0
        clear hpqa
        go_cut [80] (fun s wx => wx = WD ∧ ∃ b : Bool, s = .bool b ∧ (b = true → ∃ (j : Nat) (p0 : Nr), pa = (j : Int) ∧ R[j]? = some p0 ∧ p0.n.ki = 1))
        case first =>
          rcases HPA.out with ⟨h0, h1⟩ | ⟨h0, h1⟩
          · have hg : decide (pa ≥ 0) = false := decide_eq_false (by omega)
            go_wp2
            go_meet
            exact ⟨rfl, false, rfl, fun h => by cases h⟩
          · have hg : decide (pa ≥ 0) = true := decide_eq_true (by omega)
            obtain ⟨j, rfl⟩ := Int.eq_ofNat_of_zero_le h0
            obtain ⟨p0, hp0⟩ : ∃ p0, R[j]? = some p0 := ⟨_, List.getElem?_eq_getElem (by omega)⟩
            rcases own_nr HT.out.own rfl with ⟨he, hR0⟩ | ⟨g, cap, cs, he, hgl, hcap, hh, hcs, hin⟩
            · subst hR0; simp at hp0
            · obtain ⟨rfl, rfl⟩ : a0 = some ⟨g, 0, none⟩ ∧ c0 = cap := by simpa using he
              have cq4 : WD.cell? ⟨g, j * 34 + 4, none⟩ = some (.int .i64 p0.n.ki) := (cellS hh _).trans (hin j p0 hp0 4 _ rfl)
              have HP0 := Lib.hid hp0
              clear hin hh he hp0
              go_wp2
              go_meet
              refine ⟨rfl, (p0.n.ki == 1), rfl, fun h => ⟨j, p0, rfl, HP0.out, by simpa using h⟩⟩
        case rest =>
        obtain ⟨hwd, b, hs80, hb80⟩ := hcut
        subst hwd hs80
        have HB8 := Lib.hid hb80
        clear hb80
        go_upto_if 80 with (fail)
        go_cut [4] (fun iv wx => iv = .int .i64 (((k + 1 : Nat) : Int)) ∧ ∃ q : Ce, XB bx (pq.ceN q) wx ∧ TrS w w.heap.size w.heap.size bt rb R (.slice a0 R.length c0) wx ∧ Rd B rb A l c (mR + 650) wx ∧ NL wx pq)
        case first =>
          cases b
          · go_wp2
            go_meet
            exact ⟨rfl, pq.n.ce, HX.out, HT.out, HR.out.mono (by omega), HNL.out⟩
          · obtain ⟨j, p0, hj, hp0, hki0⟩ := HB8.out rfl
            subst hj
            obtain ⟨hn0, hk0⟩ := HT.out.lns p0 (List.mem_of_getElem? hp0)
            obtain ⟨q1, q2⟩ := hk0 hki0
            have q3 := hn0.c5
            have q4 := hn0.r5
            have hjl : j < R.length := (List.getElem?_eq_some_iff.1 hp0).1
            have hjli : (j : Int) < (R.length : Int) := by omega
            rcases own_nr HT.out.own rfl with ⟨he, hR0⟩ | ⟨g, cap, cs, he, hgl, hcap, hh, hcs, hin⟩
            · subst hR0; simp at hp0
            · obtain ⟨rfl, rfl⟩ : a0 = some ⟨g, 0, none⟩ ∧ c0 = cap := by simpa using he
              have HH := Lib.hid hh
              have HC5 := Lib.hid (hin j p0 hp0 5 _ rfl)
              have HC6 := Lib.hid (hin j p0 hp0 6 _ rfl)
              have hgr : g ≠ rb := by omega
              have hgs := ltS hh
              have hbs := ltS HX.out
              have hts := ltS HT.out.box
              obtain ⟨n1, hn1⟩ : ∃ n1, p0.n.cs.length = n1 := ⟨_, rfl⟩
              obtain ⟨n2, hn2⟩ : ∃ n2, p0.n.rs.length = n2 := ⟨_, rfl⟩
              rw [hn1] at HC5 q1 q3
              rw [hn2] at HC6 q2 q4
              have HD0 := Lib.hid d0
              clear hin hh he hp0 hn0 hk0 hki0 hcs hn1 hn2 d0 cb0
              go_wp2_with fail
              refine wp_region_rgp (fun k => ((fun v _ => v = .pointer (some ⟨rb, 0, none⟩)) :: (fun v _ => v = .pointer (some ⟨bt, 0, none⟩)) :: (fun v _ => v = .slice (some ⟨g, 0, none⟩) R.length c0) :: (fun v _ => v = .pointer (some ⟨bx, 0, none⟩)) :: (fun v _ => v = .int .i64 (j : Int)) :: (fun v _ => v = .pointer (some ⟨g, j * 34, none⟩)) :: (fun v _ => v = .pointer (some ⟨g, j * 34 + 5, none⟩)) :: (fun v _ => v = .slice p0.ca n1 p0.cc) :: (fun v _ => v = .int .i64 (n1 : Int)) :: (fun v _ => v = .pointer (some ⟨bt, 0, none⟩)) :: (fun v _ => v = .slice (some ⟨g, 0, none⟩) R.length c0) :: (fun v _ => v = .pointer (some ⟨bx, 0, none⟩)) :: (fun v _ => v = .int .i64 (j : Int)) :: (fun v _ => v = .pointer (some ⟨g, j * 34, none⟩)) :: (fun v _ => v = .pointer (some ⟨g, j * 34 + 6, none⟩)) :: (fun v _ => v = .slice p0.ra n2 p0.rc) :: (fun v _ => v = .int .i64 (n2 : Int)) :: (fun v _ => ∃ q : Ce, v = .agg (valsCe q).toArray) :: (fun v _ => v = .pointer (some ⟨bx, 16, none⟩)) :: []).getD k (fun _ _ => True)) (Chg [rb]) (fun mm w => Rd B rb A l c (mR + 94 + 21 * mm) w) 19 (by kernel_rfl) (by kernel_rfl) (by kernel_rfl) (fun a => Chg.refl _ a) (fun _ _ _ h k => h.trans k) ?hTs ?hI0 ?hops ?hfin
              case hops =>
                refine ⟨opOK_ds [(0, none)] (by kernel_rfl) rfl ?_, ?_⟩
                · intro mm act w' hm' hR hI h1
                  have hk : ∀ v, act.eval (.const v) = v := fun _ => rfl
                  have hf : ∀ f, act.eval (.func f) = .func (.func f) #[] #[] := fun _ => rfl
                  generalize act.eval = ρ at *
                  have hm : mm < 20 := hm'
                  replace h1 : ρ (.tmp 0) = .pointer (some ⟨rb, 0, none⟩) := h1
                  refine gx_genT (fun K hK => ?_)
                  go_simp
                  exact hK _ _ ⟨rfl, Chg.refl _ _, hI.mono (by omega)⟩
                refine ⟨opOK_ds [(3, none)] (by kernel_rfl) rfl ?_, ?_⟩
                · intro mm act w' hm' hR hI h1
                  have hk : ∀ v, act.eval (.const v) = v := fun _ => rfl
                  have hf : ∀ f, act.eval (.func f) = .func (.func f) #[] #[] := fun _ => rfl
                  generalize act.eval = ρ at *
                  have hm : mm < 20 := hm'
                  replace h1 : ρ (.tmp 3) = .pointer (some ⟨bt, 0, none⟩) := h1
                  refine gx_genT (fun K hK => ?_)
                  go_simp
                  exact hK _ _ ⟨rfl, Chg.refl _ _, hI.mono (by omega)⟩
                refine ⟨opOK_ds [(82, some 1)] (by kernel_rfl) rfl ?_, ?_⟩
                · intro mm act w' hm' hR hI h1
                  have hk : ∀ v, act.eval (.const v) = v := fun _ => rfl
                  have hf : ∀ f, act.eval (.func f) = .func (.func f) #[] #[] := fun _ => rfl
                  generalize act.eval = ρ at *
                  have hm : mm < 20 := hm'
                  replace h1 : ρ (.tmp 82) = .pointer (some ⟨bt, 0, none⟩) := h1
                  refine gx_genT (fun K hK => ?_)
                  have d0 := cellS ((hR.block bt (by simpa using hts) (by simpa using hbt)).trans HT.out.box) 0
                  go_simp
                  exact hK _ _ ⟨rfl, Chg.refl _ _, hI.mono (by omega)⟩
                refine ⟨opOK_ds [(5, none)] (by kernel_rfl) rfl ?_, ?_⟩
                · intro mm act w' hm' hR hI h1
                  have hk : ∀ v, act.eval (.const v) = v := fun _ => rfl
                  have hf : ∀ f, act.eval (.func f) = .func (.func f) #[] #[] := fun _ => rfl
                  generalize act.eval = ρ at *
                  have hm : mm < 20 := hm'
                  replace h1 : ρ (.tmp 5) = .pointer (some ⟨bx, 0, none⟩) := h1
                  refine gx_genT (fun K hK => ?_)
                  go_simp
                  exact hK _ _ ⟨rfl, Chg.refl _ _, hI.mono (by omega)⟩
                refine ⟨opOK_ds [(84, some 3)] (by kernel_rfl) rfl ?_, ?_⟩
                · intro mm act w' hm' hR hI h1
                  have hk : ∀ v, act.eval (.const v) = v := fun _ => rfl
                  have hf : ∀ f, act.eval (.func f) = .func (.func f) #[] #[] := fun _ => rfl
                  generalize act.eval = ρ at *
                  have hm : mm < 20 := hm'
                  replace h1 : ρ (.tmp 84) = .pointer (some ⟨bx, 0, none⟩) := h1
                  refine gx_genT (fun K hK => ?_)
                  have d0 := (hR.block bx (by simpa using hbs) (by simpa using hbx4))
                  have d0' := (World.cell?_of_block (a := ⟨bx, 0, none⟩) d0).trans HD0.out
                  clear d0
                  go_simp
                  exact hK _ _ ⟨rfl, Chg.refl _ _, hI.mono (by omega)⟩
                refine ⟨opOK_ds [(83, some 2), (85, some 4)] (by kernel_rfl) rfl ?_, ?_⟩
                · intro mm act w' hm' hR hI h1 h2
                  have hk : ∀ v, act.eval (.const v) = v := fun _ => rfl
                  have hf : ∀ f, act.eval (.func f) = .func (.func f) #[] #[] := fun _ => rfl
                  generalize act.eval = ρ at *
                  have hm : mm < 20 := hm'
                  replace h1 : ρ (.tmp 83) = .slice (some ⟨g, 0, none⟩) R.length c0 := h1
                  replace h2 : ρ (.tmp 85) = .int .i64 (j : Int) := h2
                  refine gx_genT (fun K hK => ?_)
                  go_simp
                  exact hK _ _ ⟨rfl, Chg.refl _ _, hI.mono (by omega)⟩
                refine ⟨opOK_ds [(86, some 5)] (by kernel_rfl) rfl ?_, ?_⟩
                · intro mm act w' hm' hR hI h1
                  have hk : ∀ v, act.eval (.const v) = v := fun _ => rfl
                  have hf : ∀ f, act.eval (.func f) = .func (.func f) #[] #[] := fun _ => rfl
                  generalize act.eval = ρ at *
                  have hm : mm < 20 := hm'
                  replace h1 : ρ (.tmp 86) = .pointer (some ⟨g, j * 34, none⟩) := h1
                  refine gx_genT (fun K hK => ?_)
                  go_simp
                  exact hK _ _ ⟨rfl, Chg.refl _ _, hI.mono (by omega)⟩
                refine ⟨opOK_ds [(87, some 6)] (by kernel_rfl) rfl ?_, ?_⟩
                · intro mm act w' hm' hR hI h1
                  have hk : ∀ v, act.eval (.const v) = v := fun _ => rfl
                  have hf : ∀ f, act.eval (.func f) = .func (.func f) #[] #[] := fun _ => rfl
                  generalize act.eval = ρ at *
                  have hm : mm < 20 := hm'
                  replace h1 : ρ (.tmp 87) = .pointer (some ⟨g, j * 34 + 5, none⟩) := h1
                  refine gx_genT (fun K hK => ?_)
                  have d0 := (cellS ((hR.block g (by simpa using hgs) (by simpa using hgr)).trans HH.out) (j * 34 + 5)).trans HC5.out
                  go_simp
                  exact hK _ _ ⟨rfl, Chg.refl _ _, hI.mono (by omega)⟩
                refine ⟨opOK_ds [(88, some 7)] (by kernel_rfl) rfl ?_, ?_⟩
                · intro mm act w' hm' hR hI h1
                  have hk : ∀ v, act.eval (.const v) = v := fun _ => rfl
                  have hf : ∀ f, act.eval (.func f) = .func (.func f) #[] #[] := fun _ => rfl
                  generalize act.eval = ρ at *
                  have hm : mm < 20 := hm'
                  replace h1 : ρ (.tmp 88) = .slice p0.ca n1 p0.cc := h1
                  refine gx_genT (fun K hK => ?_)
                  go_simp
                  exact hK _ _ ⟨rfl, Chg.refl _ _, hI.mono (by omega)⟩
                refine ⟨opOK_ds [(3, none)] (by kernel_rfl) rfl ?_, ?_⟩
                · intro mm act w' hm' hR hI h1
                  have hk : ∀ v, act.eval (.const v) = v := fun _ => rfl
                  have hf : ∀ f, act.eval (.func f) = .func (.func f) #[] #[] := fun _ => rfl
                  generalize act.eval = ρ at *
                  have hm : mm < 20 := hm'
                  replace h1 : ρ (.tmp 3) = .pointer (some ⟨bt, 0, none⟩) := h1
                  refine gx_genT (fun K hK => ?_)
                  go_simp
                  exact hK _ _ ⟨rfl, Chg.refl _ _, hI.mono (by omega)⟩
                refine ⟨opOK_ds [(90, some 9)] (by kernel_rfl) rfl ?_, ?_⟩
                · intro mm act w' hm' hR hI h1
                  have hk : ∀ v, act.eval (.const v) = v := fun _ => rfl
                  have hf : ∀ f, act.eval (.func f) = .func (.func f) #[] #[] := fun _ => rfl
                  generalize act.eval = ρ at *
                  have hm : mm < 20 := hm'
                  replace h1 : ρ (.tmp 90) = .pointer (some ⟨bt, 0, none⟩) := h1
                  refine gx_genT (fun K hK => ?_)
                  have d0 := cellS ((hR.block bt (by simpa using hts) (by simpa using hbt)).trans HT.out.box) 0
                  go_simp
                  exact hK _ _ ⟨rfl, Chg.refl _ _, hI.mono (by omega)⟩
                refine ⟨opOK_ds [(5, none)] (by kernel_rfl) rfl ?_, ?_⟩
                · intro mm act w' hm' hR hI h1
                  have hk : ∀ v, act.eval (.const v) = v := fun _ => rfl
                  have hf : ∀ f, act.eval (.func f) = .func (.func f) #[] #[] := fun _ => rfl
                  generalize act.eval = ρ at *
                  have hm : mm < 20 := hm'
                  replace h1 : ρ (.tmp 5) = .pointer (some ⟨bx, 0, none⟩) := h1
                  refine gx_genT (fun K hK => ?_)
                  go_simp
                  exact hK _ _ ⟨rfl, Chg.refl _ _, hI.mono (by omega)⟩
                refine ⟨opOK_ds [(92, some 11)] (by kernel_rfl) rfl ?_, ?_⟩
                · intro mm act w' hm' hR hI h1
                  have hk : ∀ v, act.eval (.const v) = v := fun _ => rfl
                  have hf : ∀ f, act.eval (.func f) = .func (.func f) #[] #[] := fun _ => rfl
                  generalize act.eval = ρ at *
                  have hm : mm < 20 := hm'
                  replace h1 : ρ (.tmp 92) = .pointer (some ⟨bx, 0, none⟩) := h1
                  refine gx_genT (fun K hK => ?_)
                  have d0 := (hR.block bx (by simpa using hbs) (by simpa using hbx4))
                  have d0' := (World.cell?_of_block (a := ⟨bx, 0, none⟩) d0).trans HD0.out
                  clear d0
                  go_simp
                  exact hK _ _ ⟨rfl, Chg.refl _ _, hI.mono (by omega)⟩
                refine ⟨opOK_ds [(91, some 10), (93, some 12)] (by kernel_rfl) rfl ?_, ?_⟩
                · intro mm act w' hm' hR hI h1 h2
                  have hk : ∀ v, act.eval (.const v) = v := fun _ => rfl
                  have hf : ∀ f, act.eval (.func f) = .func (.func f) #[] #[] := fun _ => rfl
                  generalize act.eval = ρ at *
                  have hm : mm < 20 := hm'
                  replace h1 : ρ (.tmp 91) = .slice (some ⟨g, 0, none⟩) R.length c0 := h1
                  replace h2 : ρ (.tmp 93) = .int .i64 (j : Int) := h2
                  refine gx_genT (fun K hK => ?_)
                  go_simp
                  exact hK _ _ ⟨rfl, Chg.refl _ _, hI.mono (by omega)⟩
                refine ⟨opOK_ds [(94, some 13)] (by kernel_rfl) rfl ?_, ?_⟩
                · intro mm act w' hm' hR hI h1
                  have hk : ∀ v, act.eval (.const v) = v := fun _ => rfl
                  have hf : ∀ f, act.eval (.func f) = .func (.func f) #[] #[] := fun _ => rfl
                  generalize act.eval = ρ at *
                  have hm : mm < 20 := hm'
                  replace h1 : ρ (.tmp 94) = .pointer (some ⟨g, j * 34, none⟩) := h1
                  refine gx_genT (fun K hK => ?_)
                  go_simp
                  exact hK _ _ ⟨rfl, Chg.refl _ _, hI.mono (by omega)⟩
                refine ⟨opOK_ds [(95, some 14)] (by kernel_rfl) rfl ?_, ?_⟩
                · intro mm act w' hm' hR hI h1
                  have hk : ∀ v, act.eval (.const v) = v := fun _ => rfl
                  have hf : ∀ f, act.eval (.func f) = .func (.func f) #[] #[] := fun _ => rfl
                  generalize act.eval = ρ at *
                  have hm : mm < 20 := hm'
                  replace h1 : ρ (.tmp 95) = .pointer (some ⟨g, j * 34 + 6, none⟩) := h1
                  refine gx_genT (fun K hK => ?_)
                  have d0 := (cellS ((hR.block g (by simpa using hgs) (by simpa using hgr)).trans HH.out) (j * 34 + 6)).trans HC6.out
                  go_simp
                  exact hK _ _ ⟨rfl, Chg.refl _ _, hI.mono (by omega)⟩
                refine ⟨opOK_ds [(96, some 15)] (by kernel_rfl) rfl ?_, ?_⟩
                · intro mm act w' hm' hR hI h1
                  have hk : ∀ v, act.eval (.const v) = v := fun _ => rfl
                  have hf : ∀ f, act.eval (.func f) = .func (.func f) #[] #[] := fun _ => rfl
                  generalize act.eval = ρ at *
                  have hm : mm < 20 := hm'
                  replace h1 : ρ (.tmp 96) = .slice p0.ra n2 p0.rc := h1
                  refine gx_genT (fun K hK => ?_)
                  go_simp
                  exact hK _ _ ⟨rfl, Chg.refl _ _, hI.mono (by omega)⟩
                refine ⟨opOK_ds [(81, some 0), (89, some 8), (97, some 16)] (by kernel_rfl) rfl ?_, ?_⟩
                · intro mm act w' hm' hR hI h1 h2 h3
                  have hk : ∀ v, act.eval (.const v) = v := fun _ => rfl
                  have hf : ∀ f, act.eval (.func f) = .func (.func f) #[] #[] := fun _ => rfl
                  generalize act.eval = ρ at *
                  have hm : mm < 20 := hm'
                  replace h1 : ρ (.tmp 81) = .pointer (some ⟨rb, 0, none⟩) := h1
                  replace h2 : ρ (.tmp 89) = .int .i64 (n1 : Int) := h2
                  replace h3 : ρ (.tmp 97) = .int .i64 (n2 : Int) := h3
                  refine gx_genT (fun K hK => ?_)
                  go_simp
                  with_reducible refine (goodCell_any n1 n2 _ hI (by omega) q1 q3 q2 q4).mono ?_
                  rintro e w1 ⟨⟨q, rfl⟩, hr, hc⟩
                  exact ⟨_, rfl, hK _ _ ⟨⟨q, rfl⟩, hc, hr.mono (by omega)⟩⟩
                refine ⟨opOK_ds [(5, none)] (by kernel_rfl) rfl ?_, ?_⟩
                · intro mm act w' hm' hR hI h1
                  have hk : ∀ v, act.eval (.const v) = v := fun _ => rfl
                  have hf : ∀ f, act.eval (.func f) = .func (.func f) #[] #[] := fun _ => rfl
                  generalize act.eval = ρ at *
                  have hm : mm < 20 := hm'
                  replace h1 : ρ (.tmp 5) = .pointer (some ⟨bx, 0, none⟩) := h1
                  refine gx_genT (fun K hK => ?_)
                  go_simp
                  exact hK _ _ ⟨rfl, Chg.refl _ _, hI.mono (by omega)⟩
                exact trivial
              case hTs =>
                intro k v x y hv hc
                exact stab_listT (by
                  intro T hT
                  simp only [List.mem_cons, List.not_mem_nil, or_false] at hT
                  rcases hT with rfl | rfl | rfl | rfl | rfl | rfl | rfl | rfl | rfl | rfl | rfl | rfl | rfl | rfl | rfl | rfl | rfl | rfl | rfl <;> first | exact fun v a b h _ => h | exact fun v a b h hc => AXN.keep h hc (by omega) | exact fun v a b h hc => AXN.keep h hc (by omega) | exact fun v a b h hc => TL.keep h hc)
                  k v x y hv hc
              case hI0 => exact (HR.out.drew).mono (by omega)
              case hfin =>
                intro w6 hR6 hI6
                intro v81 t81 v82 t82 v83 t83 v84 t84 v85 t85 v86 t86 v87 t87 v88 t88 v89 t89 v90 t90 v91 t91 v92 t92 v93 t93 v94 t94 v95 t95 v96 t96 v97 t97 v98 t98 v99 t99
                obtain ⟨q, rfl⟩ : ∃ q : Ce, v98 = .agg (valsCe q).toArray := t98
                obtain rfl : v99 = .pointer (some ⟨bx, 16, none⟩) := t99
                clear t81 t82 t83 t84 t85 t86 t87 t88 t89 t90 t91 t92 t93 t94 t95 t96 t97
                simp only [List.take, finP, Act.put, List.setIfInBounds_toArray, List.set_cons_succ, List.set_cons_zero]
                replace HNL := Lib.hid (HNL.out.kp ((KpL.below (Below.refl _ _).drew).trans (kp_rd HR.out.drew hR6)))
                replace HT := Lib.hid (HT.out.drew.call HR.out.drew hR6 hrw hbt hbr)
                replace HX := Lib.hid (show XB bx pq w6 from (hR6.block bx (by simpa using hbs) (by simpa using hbx4)).trans HX.out)
                replace HR := Lib.hid (show Rd B rb A l c (mR + 94 + 21 * 19) w6 from hI6)
                clear hR6 hI6 HH HC5 HC6 HD0
                refine wpAny_storeT 19 34 (.tmp 99) (.tmp 98) bx 16 (valsCe q) (by kernel_rfl) (by kernel_rfl) (by kernel_rfl) rfl rfl (thereB HX.out (by simp [valsNr, valsCe])) (by kernel_rfl) (valsCe_oneT _) ?_
                refine wp_PT (fun W => XB bx (pq.ceN q) W ∧ TrS w w.heap.size w.heap.size bt rb R (.slice (some ⟨g, 0, none⟩) R.length c0) W ∧ Rd B rb A l c (mR + 650) W ∧ NL W pq) ⟨HX.out.sets 16 _ (by kernel_rfl), HT.out.sets HX.out hbx1 hbx2 hbx3 hown 16 _, (HR.out.sets hbx5 hbx4 16 _).mono (by omega), HNL.out.sets HX.out 16 _⟩ ?_
                clear HX HT HR HNL
                rintro WF ⟨hx, ht, hr, hn⟩
                have HX := Lib.hid hx
                have HT := Lib.hid ht
                have HR := Lib.hid hr
                have HNL := Lib.hid hn
                clear hx ht hr hn
                have d20 := HX.out.cell 20
                simp only [valsNr, nx, Nr.pkN, Nr.plN, Nr.ceN] at d20
                have f20 := HX.out.frz 20
                have d21 := HX.out.cell 21
                simp only [valsNr, nx, Nr.pkN, Nr.plN, Nr.ceN] at d21
                have f21 := HX.out.frz 21
                go_wp2
                go_meet
                exact ⟨rfl, ⟨q.co, q.ro, q.mc, q.mr, 0, 0, q.sk, q.px, q.py⟩, HX.out.sets 20 [.int .i64 0, .int .i64 0] (by kernel_rfl), HT.out.sets HX.out hbx1 hbx2 hbx3 hown 20 [.int .i64 0, .int .i64 0], HR.out.sets hbx5 hbx4 20 [.int .i64 0, .int .i64 0], HNL.out.sets HX.out 20 [.int .i64 0, .int .i64 0]⟩
        case rest =>
        obtain ⟨hiv, q, hx, ht, hr, hn⟩ := hcut
        subst hiv
        have HX := Lib.hid hx
        have HT := Lib.hid ht
        have HR := Lib.hid hr
        have HNL := Lib.hid hn
        clear hx ht hr hn d0 cb0
        obtain ⟨pz, hpz⟩ : ∃ pz, pq.ceN q = pz := ⟨_, rfl⟩
        rw [hpz] at HX
        replace HNL := Lib.hid (show NL wc pz by rw [← hpz]; exact ⟨HNL.out.c, HNL.out.r, HNL.out.cl, HNL.out.rl, HNL.out.c5, HNL.out.r5⟩)
        replace HKL := Lib.hid (show kiL pz by rw [← hpz]; exact HKL.out)
        clear hpz
        have cb0 := cellS HT.out.box 0
        have hob := HT.out.own.lt
        have hwz : w.heap.size ≤ wc.heap.size := HT.out.chg.size
        have HOA := Lib.hid (HT.out.own.alloc (.cells (valsNr pz).toArray 38))
        go_wp2_with (first | ((with_reducible show wpList _ _ _ _ _ _); refine ldN (.tmp 5) pz bx 0 rfl rfl rfl (nodeAt HX.out) ?_; refine bsN (.tmp 106) pz rfl rfl rfl ?_) | (at_builtin; refine wpList_append_own _ rfl _ _ 23 rfl w.heap.size 38 ti tz 34 288 Tryz.underlying23 ti1 ti2 ti3 ti4 ti5 (by decide) (.slice a0 R.length c0) R.length (nrvals R) rfl HOA.out ⟨wc.heap.size, 0, none⟩ 1 1 (valsNr pz) rfl rfl (new34 _ pz _) (valsNr_one _) (by simp only [maxLen]; omega) (by omega) (by simp; omega) ?_))
        clear HOA
        intro v5 w5 how5 hgr5 _
        obtain ⟨h5a, h5b, h5c, h5d, h5e, h5f⟩ := HT.out.add HNL.out HKL.out (Nat.le_refl _) hgr5 how5
        have HR5 := Lib.hid (rd_grownN HR.out hgr5 hob hrw)
        obtain ⟨a1, c1, rfl⟩ := own_slN how5
        have z0 := cellS h5c 0
        have zf := frozenS h5c 0
        have H5 := Lib.hid (And.intro h5b (And.intro h5c (And.intro h5d (And.intro h5e h5f))))
        clear h5a h5b h5c h5d h5e h5f how5 hgr5 hob HX HNL HKL cb0
        go_wp2
        go_roundw
        case rel =>
          obtain ⟨h5b, h5c, h5d, h5e, h5f⟩ := H5.out
          refine ⟨k, R ++ [pz], .slice a1 (R.length + 1) c1, by go_num, by simp; omega, ⟨(Below.heap_setCell _ ⟨bt, 0, none⟩ _ w.heap.size (show w.heap.size ≠ bt by omega)).trans h5b, putS h5c _, own_tree h5d h5c _, fun p hp => ⟨(h5e p hp).1.kp (kp_tree h5c _), (h5e p hp).2⟩, h5f.setCell (p := ⟨bt, 0, none⟩) (.inr (by show w.heap.size ≤ bt; omega)) _⟩, (HR5.out.setCell (p := ⟨bt, 0, none⟩) (by show B ≤ bt; omega) hbt _).mono (by simp; omega)⟩
        case measure => simp [intOf]
end Go.Proofs.YtgdkionmeacalabGreat
end
