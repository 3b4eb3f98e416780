import Derived.Test.YtgdkionmeacalabGreatQ12
import Derived.LoopTactic
import Derived.OwnWalk
import Derived.Deep.RegionHeld3
import Derived.Deep.DrawnRows
import Derived.RangeFuncNested
import Derived.RangeFuncBound
import Derived.RangeFuncCalls
import Derived.RangeFuncLeaves
import Derived.Shelf.Abstract
import Derived.Shelf.RegionOpen
import Derived.WalkKit
import Derived.OwnWalkIn
import Derived.TacticsInMore
import Derived.LoopNIn
import Derived.LoopIn
section
namespace Go.Proofs.YtgdkionmeacalabGreat
open Go.RowKit
set_option linter.unusedVariables false
set_option linter.unusedSimpArgs false
set_option maxHeartbeats 4000000
attribute [local go_sem] growUpon_value growUpon_skip growUpon_enter
attribute [local go_sem] givesUpon_value givesUpon_skip givesUpon_enter
/-- the result holds the tree -/
def SGh (W : World) (r0 g n c0 : Nat) : Prop := W.heap[r0]? = some (.cells #[.slice (some ⟨g, 0, none⟩) n c0] 25 (0, 0))
structure HSx (B rb r0 : Nat) (A : Option Addr) (n c : Nat) (m : Nat) (w : World) : Prop where
  rd : Rd B rb A n c m w
  h0 : ∃ v, w.heap[r0]? = some (.cells #[v] 25 (0, 0))
  n2 : r0 ≠ rb
  l1 : B ≤ r0
structure RSx (rb r0 g n c0 : Nat) (a b : World) : Prop where
  chg : Chg [rb, r0] a b
  s : SGh a r0 g n c0 → SGh b r0 g n c0
section
variable {B rb r0 g k c0 : Nat} {A : Option Addr} {n c m : Nat} {w w' : World}
theorem RSx.refl (a : World) : RSx rb r0 g k c0 a a := ⟨Chg.refl _ _, id⟩
theorem RSx.trans {a b d : World} (h : RSx rb r0 g k c0 a b) (h' : RSx rb r0 g k c0 b d) : RSx rb r0 g k c0 a d := ⟨h.chg.trans h'.chg, fun x => h'.s (h.s x)⟩
theorem RSx.alloc (hI : HSx B rb r0 A n c m w) (o : Obj) : RSx rb r0 g k c0 w (w.alloc o) := ⟨(Chg.refl _ _).alloc _, fun x => (Below.heap_alloc _ _ _ (ltS x)).trans x⟩
theorem RSx.call (hI : HSx B rb r0 A n c m w) (hc : Chg [rb] w w') : RSx rb r0 g k c0 w w' := ⟨hc.mono (by simp), fun x => (hc.block r0 (ltS x) (by simpa using hI.n2)).trans x⟩
theorem RSx.store (hI : HSx B rb r0 A n c m w) {v : Value} (hq : w.heap[r0]? = some (.cells #[v] 25 (0, 0))) : RSx rb r0 g k c0 w (w.setCell ⟨r0, 0, none⟩ (.slice (some ⟨g, 0, none⟩) k c0)) := ⟨(Chg.refl _ _).setCell (p := ⟨r0, 0, none⟩) (.inl (by simp)) _, fun _ => putS hq _⟩
theorem HSx.base (h : HSx B rb r0 A n c m w) : B ≤ w.heap.size := by have := h.rd.lt; have := h.rd.base; omega
theorem HSx.lts (h : HSx B rb r0 A n c m w) : ∀ j ∈ [rb, r0], j < w.heap.size := by
  have h1 := h.rd.lt
  obtain ⟨v, hv⟩ := h.h0
  have h2 := ltS hv
  simp [h1, h2]
theorem HSx.mono {m' : Nat} (h : HSx B rb r0 A n c m w) (hm : m ≤ m') : HSx B rb r0 A n c m' w := ⟨h.rd.mono hm, h.h0, h.n2, h.l1⟩
theorem HSx.drew (h : HSx B rb r0 A n c m w) : HSx B rb r0 A n c m w.drew := ⟨h.rd.drew, h.h0, h.n2, h.l1⟩
theorem HSx.alloc (h : HSx B rb r0 A n c m w) (o : Obj) : HSx B rb r0 A n c m (w.alloc o) := ⟨h.rd.alloc o, let ⟨v, hv⟩ := h.h0; ⟨v, (Below.heap_alloc _ _ _ (ltS hv)).trans hv⟩, h.n2, h.l1⟩
theorem HSx.call {m' : Nat} (h : HSx B rb r0 A n c m w) (hr : Rd B rb A n c m' w') (hc : Chg [rb] w w') : HSx B rb r0 A n c m' w' := ⟨hr, let ⟨v, hv⟩ := h.h0; ⟨v, (hc.block r0 (ltS hv) (by simpa using h.n2)).trans hv⟩, h.n2, h.l1⟩
theorem HSx.store (h : HSx B rb r0 A n c m w) {v x : Value} (hq : w.heap[r0]? = some (.cells #[v] 25 (0, 0))) : HSx B rb r0 A n c m (w.setCell ⟨r0, 0, none⟩ x) := ⟨h.rd.setCell (p := ⟨r0, 0, none⟩) h.l1 h.n2 x, ⟨x, putS hq _⟩, h.n2, h.l1⟩
end
theorem stab_listX {D : World → World → Prop} : ∀ {l : List (Value → World → Prop)}, (∀ T ∈ l, ∀ (v : Value) (a b : World), T v a → D a b → T v b) → ∀ (k : Nat) (v : Value) (a b : World), l.getD k (fun _ _ => True) v a → D a b → l.getD k (fun _ _ => True) v b
  | [], _, k, v, a, b, h, hc => trivial
  | T :: r, hl, 0, v, a, b, h, hc => hl T List.mem_cons_self v a b h hc
  | T :: r, hl, k + 1, v, a, b, h, hc => stab_listX (l := r) (fun T hT => hl T (List.mem_cons_of_mem _ hT)) k v a b h hc
theorem TK.lo' {W : World} {lo lo' g : Nat} {R : List Nr} (h : TK W lo g R) (hl : lo' ≤ lo) : TK W lo' g R := ⟨Nat.le_trans hl h.lo, h.blk, h.ns⟩
theorem TK.chg2 {W W' : World} {lo g rb r0 : Nat} {R : List Nr} {o o' : Obj} (h : TK W lo g R) (hb : W.heap[rb]? = some o ∧ ∀ cs, o ≠ .cells cs 150 (0, 0)) (h0 : W.heap[r0]? = some o' ∧ ∀ cs, o' ≠ .cells cs 150 (0, 0)) (hc : Chg [rb, r0] W W') (h1 : g ≠ rb) (h2 : g ≠ r0) : TK W' lo g R :=
  ⟨h.lo, let ⟨cs, hh, k1, k2⟩ := h.blk; ⟨cs, (hc.block g (ltS hh) (by simp; exact ⟨h1, h2⟩)).trans hh, k1, k2⟩, fun p hp => (h.ns p hp).kp (fun g' cs e => hc.block g' (ltS e) (by
    simp only [List.mem_cons, List.not_mem_nil, or_false]
    rintro (rfl | rfl)
    · have := hb.1; rw [e] at this; exact hb.2 cs (Option.some.inj this).symm
    · have := h0.1; rw [e] at this; exact h0.2 cs (Option.some.inj this).symm))⟩
/-- what stands before the last draws -/
structure TvA (a : World) (lo r0 bt rb g c0 : Nat) (R : List Nr) (W : World) : Prop where
  box : W.heap[bt]? = some (.cells #[.slice (some ⟨g, 0, none⟩) R.length c0] 25 (0, 0))
  tk : TK W lo g R
  chg : Chg [rb, r0] a W
  rb0 : ∃ p : Value, ∃ x : Value, W.heap[rb]? = some (.cells #[x, p] 82 (0, 0))
  r00 : ∃ v : Value, W.heap[r0]? = some (.cells #[v] 25 (0, 0))
  lo : r0 ≤ lo
set_option maxRecDepth 100000 in
theorem DrawAskFor_any (A : Option Addr) (l c : Nat) (w : World) (h : Bts w A l) (hn : l ≤ c) (hc : c ≤ maxLen) :
    Calls Tryz.prog 28 #[.slice A l c] w fun e w' => (∃ (g c0 : Nat) (R : List Nr) (q q1 q2 : Int), e = .returned (.tuple #[.agg #[.slice (some ⟨g, 0, none⟩) R.length c0], .int .i64 q, .int .i64 q1, .int .i64 q2]) ∧ TK w' w.heap.size g R ∧ R.length ≤ c0 ∧ 1 ≤ R.length ∧ R.length ≤ 10) ∧ Below w.heap.size w w' := by
  go_enter Tryz.func28, Tryz.ntmps28
  go_wp2_with fail
  with_reducible refine (newReader_low A l c _ h (by simp) (h.alloc _) hn hc).mono ?_
  rintro e w1 ⟨n', rfl, hr1, hc1⟩
  simp only [World.size_alloc] at hr1
  go_wp2_with fail
  with_reducible refine (nodeIn_any _ hr1 (by omega)).mono ?_
  rintro e w2 ⟨⟨g, c0, R, q, rfl, htk, hcap, r1, r2⟩, hr2, hc2⟩
  have hs := hc1.size
  simp only [World.size_alloc] at hs
  have hs2 := hc2.size
  have hr0 := (hc2.block w.heap.size (by omega) (by simp)).trans ((hc1.block w.heap.size (by simp) (by simp)).trans (heap_alloc_new w _))
  have hgl := htk.lo
  have hgb : g < w2.heap.size := let ⟨_, hh, _⟩ := htk.blk; ltS hh
  have hrl := hr2.lt
  have hrl1 := hr1.lt
  have hC : Chg [w.heap.size + 1, w.heap.size] w w2 := ((((Chg.refl [w.heap.size + 1] w).alloc _).trans ((hc1.mono (by simp)).trans hc2))).mono (by simp)
  obtain ⟨bt, hbtE⟩ : ∃ bt, w2.heap.size = bt := ⟨_, rfl⟩
  obtain ⟨rb, hrb⟩ : ∃ rb, w.heap.size + 1 = rb := ⟨_, rfl⟩
  obtain ⟨r0, hr0E⟩ : ∃ r0, w.heap.size = r0 := ⟨_, rfl⟩
  have htv : TvA w w1.heap.size r0 bt rb g c0 R (w2.alloc (.cells #[.slice (some ⟨g, 0, none⟩) R.length c0] 25 (0, 0))) := by
    rw [← hbtE, ← hrb, ← hr0E]
    obtain ⟨p, _, hbx⟩ := hr2.box
    exact ⟨newS w2 _, ⟨by omega, let ⟨cs, hh, h1, h2⟩ := htk.blk; ⟨cs, (Below.heap_alloc _ _ _ hgb).trans hh, h1, h2⟩, fun p hp => (htk.ns p hp).kp (KpL.below (balloc (Below.refl _ _)))⟩, hC.alloc _, ⟨_, _, (Below.heap_alloc _ _ _ hrl).trans hbx⟩, ⟨_, (Below.heap_alloc _ _ _ (by omega)).trans hr0⟩, by omega⟩
  obtain ⟨mR, hmR⟩ : ∃ mR, 0 + 10000 = mR := ⟨_, rfl⟩
  have hI0 : HSx r0 rb r0 A n' c mR (w2.alloc (.cells #[.slice (some ⟨g, 0, none⟩) R.length c0] 25 (0, 0))).drew := by
    rw [← hrb, ← hr0E, ← hmR]
    exact HSx.drew ⟨hr2.alloc _, ⟨_, (Below.heap_alloc _ _ _ (by omega)).trans hr0⟩, by omega, Nat.le_refl _⟩
  have hbt : bt ≠ rb := by omega
  have hbt0 : bt ≠ r0 := by omega
  have hgr : g ≠ rb := by omega
  have hgr0 : g ≠ r0 := by omega
  have hmR2 : mR ≤ 20000 := by omega
  obtain ⟨wt, hwt⟩ : ∃ wt, w2.alloc (.cells #[.slice (some ⟨g, 0, none⟩) R.length c0] 25 (0, 0)) = wt := ⟨_, rfl⟩
  rw [hwt] at htv hI0
  have HT := Lib.hid htv
  have HI := Lib.hid hI0
  have HW := Lib.hid hwt
  have HR0 := Lib.hid hr0E
  have hrr : r0 < rb := by omega
  go_upto_region 3 with (fail)
  try rw [hbtE]
  try rw [hrb]
  try rw [hr0E]
  rw [show r0 + 1 = rb by omega]
  try rw [HW.out]
  clear htv hI0 hr2 hr1 hc1 hc2 hr0 htk hwt hmR hs hs2 hC hbtE hrb hr0E HW hrl hrl1 hgl hgb
  have hts := ltS HT.out.box
  refine wp_region_rgs (fun k => ((fun v _ => v = .agg #[.slice (some ⟨g, 0, none⟩) R.length c0]) :: (fun v _ => v = .int .i64 q) :: (fun v _ => v = .pointer (some ⟨rb, 0, none⟩)) :: (TL r0 [rb, r0] 6) :: (fun v _ => ∃ z : Int, v = .int .i64 z) :: (fun v _ => v = .pointer (some ⟨rb, 0, none⟩)) :: (TL r0 [rb, r0] 5) :: (fun v _ => ∃ z : Int, v = .int .i64 z) :: (fun _ W => SGh W r0 g R.length c0) :: (fun v _ => v = .int .i64 q) :: (fun v _ => ∃ z : Int, v = .int .i64 z) :: (fun v _ => ∃ z : Int, v = .int .i64 z) :: []).getD k (fun _ _ => True)) (RSx rb r0 g R.length c0) (fun mm w => HSx r0 rb r0 A n' c (mR + 21 * mm) w) (by kernel_rfl) (by kernel_rfl) (fun a => RSx.refl a) (fun _ _ _ h k => h.trans k) ?hTs ?hI0 ?hops ?hfin
  case hops =>
    refine ⟨opOK_ds [(7, none)] (by kernel_rfl) rfl ?_, ?_⟩
    · intro mm act w' hm' hR hI h1
      have hk : ∀ v, act.eval (.const v) = v := fun _ => rfl
      have hf : ∀ f, act.eval (.func f) = .func (.func f) #[] #[] := fun _ => rfl
      generalize act.eval = ρ at *
      have hm : mm < 12 := hm'
      replace h1 : ρ (.tmp 7) = .pointer (some ⟨bt, 0, none⟩) := h1
      refine gx_genT (fun K hK => ?_)
      have d0 := cellS ((hR.chg.block bt (by simpa using hts) (by simp; exact ⟨hbt, hbt0⟩)).trans HT.out.box) 0
      go_simp
      exact hK _ _ ⟨rfl, RSx.refl _, hI.mono (by omega)⟩
    refine ⟨opOK_ds [(8, none)] (by kernel_rfl) rfl ?_, ?_⟩
    · intro mm act w' hm' hR hI h1
      have hk : ∀ v, act.eval (.const v) = v := fun _ => rfl
      have hf : ∀ f, act.eval (.func f) = .func (.func f) #[] #[] := fun _ => rfl
      generalize act.eval = ρ at *
      have hm : mm < 12 := hm'
      replace h1 : ρ (.tmp 8) = .int .i64 q := h1
      refine gx_genT (fun K hK => ?_)
      go_simp
      exact hK _ _ ⟨rfl, RSx.refl _, hI.mono (by omega)⟩
    refine ⟨opOK_ds [(6, none)] (by kernel_rfl) rfl ?_, ?_⟩
    · intro mm act w' hm' hR hI h1
      have hk : ∀ v, act.eval (.const v) = v := fun _ => rfl
      have hf : ∀ f, act.eval (.func f) = .func (.func f) #[] #[] := fun _ => rfl
      generalize act.eval = ρ at *
      have hm : mm < 12 := hm'
      replace h1 : ρ (.tmp 6) = .pointer (some ⟨rb, 0, none⟩) := h1
      refine gx_genT (fun K hK => ?_)
      go_simp
      exact hK _ _ ⟨rfl, RSx.refl _, hI.mono (by omega)⟩
    refine ⟨opOK_ds [] (by kernel_rfl) rfl ?_, ?_⟩
    · intro mm act w' hm' hR hI 
      have hk : ∀ v, act.eval (.const v) = v := fun _ => rfl
      have hf : ∀ f, act.eval (.func f) = .func (.func f) #[] #[] := fun _ => rfl
      generalize act.eval = ρ at *
      have hm : mm < 12 := hm'
      refine gx_genT (fun K hK => ?_)
      have hrl := hI.lts
      go_simp
      exact hK _ _ ⟨TL.lit hI.base hI.lts (by simp) (by simp [isI]), RSx.alloc hI _, (hI.alloc _).mono (by omega)⟩
    refine ⟨opOK_ds [(18, some 2), (19, some 3)] (by kernel_rfl) rfl ?_, ?_⟩
    · intro mm act w' hm' hR hI h1 h2
      have hk : ∀ v, act.eval (.const v) = v := fun _ => rfl
      have hf : ∀ f, act.eval (.func f) = .func (.func f) #[] #[] := fun _ => rfl
      generalize act.eval = ρ at *
      have hm : mm < 12 := hm'
      replace h1 : ρ (.tmp 18) = .pointer (some ⟨rb, 0, none⟩) := h1
      replace h2 : (TL r0 [rb, r0] 6) (ρ (.tmp 19)) w' := h2
      refine gx_genT (fun K hK => ?_)
      go_simp
      with_reducible refine (one_any _ hI.rd (by omega) (h2.sub (by simp)) (by omega) (by omega)).mono ?_
      rintro e w1 ⟨⟨z, rfl⟩, hr, hc⟩
      exact ⟨_, rfl, hK _ _ ⟨⟨z, rfl⟩, RSx.call hI hc, (hI.call hr hc).mono (by omega)⟩⟩
    refine ⟨opOK_ds [(6, none)] (by kernel_rfl) rfl ?_, ?_⟩
    · intro mm act w' hm' hR hI h1
      have hk : ∀ v, act.eval (.const v) = v := fun _ => rfl
      have hf : ∀ f, act.eval (.func f) = .func (.func f) #[] #[] := fun _ => rfl
      generalize act.eval = ρ at *
      have hm : mm < 12 := hm'
      replace h1 : ρ (.tmp 6) = .pointer (some ⟨rb, 0, none⟩) := h1
      refine gx_genT (fun K hK => ?_)
      go_simp
      exact hK _ _ ⟨rfl, RSx.refl _, hI.mono (by omega)⟩
    refine ⟨opOK_ds [] (by kernel_rfl) rfl ?_, ?_⟩
    · intro mm act w' hm' hR hI 
      have hk : ∀ v, act.eval (.const v) = v := fun _ => rfl
      have hf : ∀ f, act.eval (.func f) = .func (.func f) #[] #[] := fun _ => rfl
      generalize act.eval = ρ at *
      have hm : mm < 12 := hm'
      refine gx_genT (fun K hK => ?_)
      have hrl := hI.lts
      go_simp
      exact hK _ _ ⟨TL.lit hI.base hI.lts (by simp) (by simp [isI]), RSx.alloc hI _, (hI.alloc _).mono (by omega)⟩
    refine ⟨opOK_ds [(21, some 5), (22, some 6)] (by kernel_rfl) rfl ?_, ?_⟩
    · intro mm act w' hm' hR hI h1 h2
      have hk : ∀ v, act.eval (.const v) = v := fun _ => rfl
      have hf : ∀ f, act.eval (.func f) = .func (.func f) #[] #[] := fun _ => rfl
      generalize act.eval = ρ at *
      have hm : mm < 12 := hm'
      replace h1 : ρ (.tmp 21) = .pointer (some ⟨rb, 0, none⟩) := h1
      replace h2 : (TL r0 [rb, r0] 5) (ρ (.tmp 22)) w' := h2
      refine gx_genT (fun K hK => ?_)
      go_simp
      with_reducible refine (one_any _ hI.rd (by omega) (h2.sub (by simp)) (by omega) (by omega)).mono ?_
      rintro e w1 ⟨⟨z, rfl⟩, hr, hc⟩
      exact ⟨_, rfl, hK _ _ ⟨⟨z, rfl⟩, RSx.call hI hc, (hI.call hr hc).mono (by omega)⟩⟩
    refine ⟨opOK_ds [(2, none), (16, some 0)] (by kernel_rfl) rfl ?_, ?_⟩
    · intro mm act w' hm' hR hI h1 h2
      have hk : ∀ v, act.eval (.const v) = v := fun _ => rfl
      have hf : ∀ f, act.eval (.func f) = .func (.func f) #[] #[] := fun _ => rfl
      generalize act.eval = ρ at *
      have hm : mm < 12 := hm'
      replace h1 : ρ (.tmp 2) = .pointer (some ⟨r0, 0, none⟩) := h1
      replace h2 : ρ (.tmp 16) = .agg #[.slice (some ⟨g, 0, none⟩) R.length c0] := h2
      refine gx_genT (fun K hK => ?_)
      obtain ⟨vq, hq⟩ := hI.h0
      have c0' := cellS hq 0
      have f0' := frozenS hq 0
      go_simp
      exact hK _ _ ⟨putS hq _, RSx.store hI hq, (hI.store hq).mono (by omega)⟩
    refine ⟨opOK_ds [(17, some 1)] (by kernel_rfl) rfl ?_, ?_⟩
    · intro mm act w' hm' hR hI h1
      have hk : ∀ v, act.eval (.const v) = v := fun _ => rfl
      have hf : ∀ f, act.eval (.func f) = .func (.func f) #[] #[] := fun _ => rfl
      generalize act.eval = ρ at *
      have hm : mm < 12 := hm'
      replace h1 : ρ (.tmp 17) = .int .i64 q := h1
      refine gx_genT (fun K hK => ?_)
      go_simp
      exact hK _ _ ⟨rfl, RSx.refl _, hI.mono (by omega)⟩
    refine ⟨opOK_ds [(20, some 4)] (by kernel_rfl) rfl ?_, ?_⟩
    · intro mm act w' hm' hR hI h1
      have hk : ∀ v, act.eval (.const v) = v := fun _ => rfl
      have hf : ∀ f, act.eval (.func f) = .func (.func f) #[] #[] := fun _ => rfl
      generalize act.eval = ρ at *
      have hm : mm < 12 := hm'
      replace h1 : (fun v _ => ∃ z : Int, v = .int .i64 z) (ρ (.tmp 20)) w' := h1
      refine gx_genT (fun K hK => ?_)
      obtain ⟨z1, h1⟩ := h1
      go_simp
      exact hK _ _ ⟨⟨z1, rfl⟩, RSx.refl _, hI.mono (by omega)⟩
    refine ⟨opOK_ds [(23, some 7)] (by kernel_rfl) rfl ?_, ?_⟩
    · intro mm act w' hm' hR hI h1
      have hk : ∀ v, act.eval (.const v) = v := fun _ => rfl
      have hf : ∀ f, act.eval (.func f) = .func (.func f) #[] #[] := fun _ => rfl
      generalize act.eval = ρ at *
      have hm : mm < 12 := hm'
      replace h1 : (fun v _ => ∃ z : Int, v = .int .i64 z) (ρ (.tmp 23)) w' := h1
      refine gx_genT (fun K hK => ?_)
      obtain ⟨z1, h1⟩ := h1
      go_simp
      exact hK _ _ ⟨⟨z1, rfl⟩, RSx.refl _, hI.mono (by omega)⟩
    exact trivial
  case hTs =>
    intro k v x y hv hc
    exact stab_listX (by
      intro T hT
      simp only [List.mem_cons, List.not_mem_nil, or_false] at hT
      rcases hT with rfl | rfl | rfl | rfl | rfl | rfl | rfl | rfl | rfl | rfl | rfl | rfl <;> first | exact fun v a b h _ => h | exact fun v a b h hc => hc.s h | exact fun v a b h hc => TL.keep h hc.chg)
      k v x y hv hc
  case hI0 => exact (HI.out).mono (by omega)
  case hfin =>
    intro w6 hR6 hI6 hX6
    intro v16 t16 v17 t17 v18 t18 v19 t19 v20 t20 v21 t21 v22 t22 v23 t23 v3 t3 v4 t4 v5 t5
    obtain ⟨q1, rfl⟩ : ∃ q1 : Int, v4 = .int .i64 q1 := t4
    obtain ⟨q2, rfl⟩ : ∃ q2 : Int, v5 = .int .i64 q2 := t5
    obtain rfl : v3 = .int .i64 q := t3
    clear t16 t17 t18 t19 t20 t21 t22 t23
    simp only [finP, Act.put, List.setIfInBounds_toArray, List.set_cons_succ, List.set_cons_zero]
    obtain ⟨_, hz⟩ := hX6 8 _ rfl rfl
    replace hz : SGh w6 r0 g R.length c0 := hz
    obtain ⟨px, xx, hh1⟩ := HT.out.rb0
    obtain ⟨vv, hh2⟩ := HT.out.r00
    have HK6 := Lib.hid (show TK w6 r0 g R by exact ((HT.out.tk.keep (Below.refl _ _).drew).chg2 ⟨hh1, fun cs e => by cases e⟩ ⟨hh2, fun cs e => by cases e⟩ hR6.chg hgr hgr0).lo' HT.out.lo)
    have HC6 := Lib.hid (HT.out.chg.drew.trans hR6.chg)
    have HZ := Lib.hid hz
    clear hR6 hI6 hX6 hz HT HI
    have z0 := cellS HZ.out 0
    go_wp2
    refine bodyPost_ret (v := .tuple #[.agg #[.slice (some ⟨g, 0, none⟩) R.length c0], .int .i64 q, .int .i64 q1, .int .i64 q2]) (by simp only [results, Tryz.results28]; go_simp) rfl ⟨⟨g, c0, R, q, q1, q2, rfl, (by rw [HR0.out]; exact HK6.out), hcap, r1, r2⟩, ?_⟩
    exact Chg.below HC6.out (by rw [HR0.out]; exact Nat.le_refl _) (by rw [HR0.out]; simp; omega)
end Go.Proofs.YtgdkionmeacalabGreat
end
section
namespace Go.Proofs.YtgdkionmeacalabGreat
open Go.RowKit
set_option linter.unusedVariables false
set_option linter.unusedSimpArgs false
set_option maxHeartbeats 4000000
attribute [local go_sem] growUpon_value growUpon_skip growUpon_enter
set_option maxRecDepth 100000 in
theorem DrawTouchedBy_any (A : Option Addr) (l c : Nat) (w : World) (h : Bts w A l) (hn : l ≤ c) (hc : c ≤ maxLen) :
    Calls Tryz.prog 9 #[.slice A l c] w fun e w' => (∃ (g c0 : Nat) (R : List Nr) (q q1 q2 : Int), e = .returned (.tuple #[.agg #[.slice (some ⟨g, 0, none⟩) R.length c0], .int .i64 q, .int .i64 q1, .int .i64 q2]) ∧ TK w' w.heap.size g R ∧ R.length ≤ c0 ∧ 1 ≤ R.length ∧ R.length ≤ 10) ∧ Below w.heap.size w w' := by
  go_enter Tryz.func9, Tryz.ntmps9
  go_wp2_with fail
  with_reducible refine (DrawAskFor_any A l c _ (Bts.alloc' h _) hn hc).mono ?_
  rintro e w1 ⟨⟨g, c0, R, q, q1, q2, rfl, htk, hcap, r1, r2⟩, hB⟩
  have z := (hB.block w.heap.size (by simp)).trans (heap_alloc_new w _)
  have hgl := htk.lo
  rw [World.size_alloc] at hgl
  have HT := Lib.hid htk
  have HZ := Lib.hid z
  have HB := Lib.hid ((balloc (Below.refl w.heap.size w)).trans (hB.mono (by simp)))
  have cr := cellS z 0
  have fr := frozenS z 0
  clear htk z hB
  go_wp2
  refine bp_genT (fun W => TK W w.heap.size g R ∧ Below w.heap.size w W ∧ W.heap[w.heap.size]? = some (.cells #[.slice (some ⟨g, 0, none⟩) R.length c0] 25 (0, 0))) ⟨(HT.out.res HZ.out (by omega) _).lo' (by rw [World.size_alloc]; omega), HB.out.setCell (p := ⟨w.heap.size, 0, none⟩) (Nat.le_refl _) _, putS HZ.out _⟩ ?_
  clear HT HZ HB cr fr
  rintro W ⟨h1, h3, hz⟩
  have z0 := cellS hz 0
  exact bodyPost_ret (v := .tuple #[.agg #[.slice (some ⟨g, 0, none⟩) R.length c0], .int .i64 q, .int .i64 q1, .int .i64 q2]) (by simp only [results, Tryz.results9]; go_simp) rfl ⟨⟨g, c0, R, q, q1, q2, rfl, h1, hcap, r1, r2⟩, h3⟩
end Go.Proofs.YtgdkionmeacalabGreat
end
section
namespace Go.Proofs.YtgdkionmeacalabGreat
open Go.RowKit
theorem TK.rdr {W : World} {lo g : Nat} {R : List Nr} (h : TK W lo g R) : RdR W R := fun p hp => (h.ns p hp).rd
theorem TK.mx {W : World} {lo g : Nat} {R : List Nr} (h : TK W lo g R) : ∀ p ∈ R, p.n.cs.length ≤ 1048576 ∧ p.n.rs.length ≤ 1048576 := fun p hp => by
  have := (h.ns p hp).c5
  have := (h.ns p hp).r5
  omega
theorem TK.cellAt {W : World} {lo g j : Nat} {R : List Nr} {p : Nr} (h : TK W lo g R) (hp : R[j]? = some p) (o : Nat) (v : Value) (hv : (valsNr p)[o]? = some v) : W.cell? ⟨g, j * 34 + o, none⟩ = some v := by
  obtain ⟨cs, hh, _, hin⟩ := h.blk
  exact (cellS hh _).trans (hin j p hp o v hv)
end Go.Proofs.YtgdkionmeacalabGreat
end
section
set_option linter.unusedVariables false
namespace Go.Proofs.YtgdkionmeacalabGreat
def Pk.ok (p : Pk) : Bool := vpB p.w p.h p.s p.an p.px p.py
def vpsB (L : List Pk) : Bool := L.all Pk.ok && decide (L.length ≤ 7)
def Pk.down (p : Pk) : Bool := decide (p.s = 0 ∨ p.s = 1)
def Pk.need (p : Pk) (d : Bool) : Int := if d then p.h + 2 * p.py else p.w + 2 * p.px
/-- an item whose size is not too great -/
def Pk.big (p : Pk) : Prop := ((0 ≤ p.w ∧ p.w ≤ 1000000000000) ∧ (0 ≤ p.h ∧ p.h ≤ 1000000000000) ∧ (0 ≤ p.s ∧ p.s ≤ 3) ∧ (0 ≤ p.an ∧ p.an ≤ 8) ∧ (0 ≤ p.px ∧ p.px ≤ 10) ∧ (0 ≤ p.py ∧ p.py ≤ 10))
theorem Pk.need_bdW {p : Pk} (h : p.big) (d : Bool) : 0 ≤ p.need d ∧ p.need d ≤ 1000000000020 := by
  unfold Pk.big at h
  unfold Pk.need
  split <;> omega
end Go.Proofs.YtgdkionmeacalabGreat
end
section
namespace Go.Proofs.YtgdkionmeacalabGreat
open Go.RowKit
set_option linter.unusedVariables false
set_option maxHeartbeats 1000000
/-- nine cells hold this item -/
def Cells9 (w : World) (b o : Nat) (p : Pk) : Prop :=
  w.cell? ⟨b, o, none⟩ = some (.int .i64 p.w) ∧ w.cell? ⟨b, o + 1, none⟩ = some (.int .i64 p.h) ∧ w.cell? ⟨b, o + 2, none⟩ = some (.int .i64 p.s) ∧ w.cell? ⟨b, o + 3, none⟩ = some (.bool p.fx) ∧ w.cell? ⟨b, o + 4, none⟩ = some (.bool p.fy) ∧
  w.cell? ⟨b, o + 5, none⟩ = some (.bool p.ex) ∧ w.cell? ⟨b, o + 6, none⟩ = some (.int .i64 p.an) ∧ w.cell? ⟨b, o + 7, none⟩ = some (.int .i64 p.px) ∧ w.cell? ⟨b, o + 8, none⟩ = some (.int .i64 p.py)
def PS (w : World) (b off : Nat) (L : List Pk) : Prop := ∀ i p, L[i]? = some p → Cells9 w b (off + i * 9) p
/-- a slice that reads as this list of items -/
structure PV (w : World) (A : Option Addr) (L : List Pk) : Prop where
  cells : 0 < L.length → ∃ b off, A = some ⟨b, off, none⟩ ∧ b < w.heap.size ∧ PS w b off L
theorem Cells9.keep {w w' : World} {b o : Nat} {p : Pk} (h : Cells9 w b o p) (hb : w'.heap[b]? = w.heap[b]?) : Cells9 w' b o p := by
  have e : ∀ i, w'.cell? ⟨b, i, none⟩ = w.cell? ⟨b, i, none⟩ := fun i => World.cell?_of_block (a := ⟨b, i, none⟩) hb
  unfold Cells9 at *
  simpa only [e] using h
theorem PV.keep {w w' : World} {A : Option Addr} {L : List Pk} (h : PV w A L) (hb : Below w.heap.size w w') : PV w' A L :=
  ⟨fun h0 => let ⟨b, off, e, hl, hp⟩ := h.cells h0; ⟨b, off, e, Nat.lt_of_lt_of_le hl hb.size, fun i p hi => (hp i p hi).keep (hb.block b hl)⟩⟩
theorem svp_v (p : Pk) (b : Bool) (h : p.ok = b) (w : World) : Calls Tryz.prog 91 #[.agg #[.int .i64 p.w, .int .i64 p.h, .int .i64 p.s, .bool p.fx, .bool p.fy, .bool p.ex, .int .i64 p.an, .int .i64 p.px, .int .i64 p.py]] w fun e w' => e = .returned (.bool b) ∧ Below w.heap.size w w' := by
  rw [← h]; exact specValidPack_any _ _ _ _ _ _ _ _ _ _
theorem vp_v (p : Pk) (b : Bool) (h : p.ok = b) (w : World) : Calls Tryz.prog 70 #[.agg #[.int .i64 p.w, .int .i64 p.h, .int .i64 p.s, .bool p.fx, .bool p.fy, .bool p.ex, .int .i64 p.an, .int .i64 p.px, .int .i64 p.py]] w fun e w' => e = .returned (.bool b) ∧ Below w.heap.size w w' := by
  rw [← h]; exact validPack_any _ _ _ _ _ _ _ _ _ _
end Go.Proofs.YtgdkionmeacalabGreat
end
section
namespace Go.Proofs.YtgdkionmeacalabGreat
open Go.RowKit
set_option linter.unusedVariables false
set_option maxHeartbeats 1000000
end Go.Proofs.YtgdkionmeacalabGreat
end
section
namespace Go.Proofs.YtgdkionmeacalabGreat
open Go.RowKit
set_option linter.unusedVariables false
set_option maxHeartbeats 1000000
/-- values written side by side -/
def writeAt (cs : Array Value) (o : Nat) : List Value → Array Value
  | [] => cs
  | v :: r => writeAt (cs.setIfInBounds o v) (o + 1) r
theorem writeAt_lo : ∀ (vs : List Value) (cs : Array Value) (o i : Nat), i < o → (writeAt cs o vs)[i]? = cs[i]?
  | [], cs, o, i, _ => rfl
  | v :: r, cs, o, i, h => by unfold writeAt; rw [writeAt_lo r _ _ _ (by omega), Array.getElem?_setIfInBounds_ne (by omega)]
theorem writeAt_hi : ∀ (vs : List Value) (cs : Array Value) (o i : Nat), o + vs.length ≤ i → (writeAt cs o vs)[i]? = cs[i]?
  | [], cs, o, i, _ => rfl
  | v :: r, cs, o, i, h => by
    simp only [List.length_cons] at h
    unfold writeAt; rw [writeAt_hi r _ _ _ (by omega), Array.getElem?_setIfInBounds_ne (by omega)]
theorem writeAt_in : ∀ (vs : List Value) (cs : Array Value) (o j : Nat), o + vs.length ≤ cs.size → j < vs.length → (writeAt cs o vs)[o + j]? = vs[j]?
  | [], cs, o, j, _, h => by simp at h
  | v :: r, cs, o, 0, h, _ => by
    simp only [List.length_cons] at h
    unfold writeAt; rw [writeAt_lo r _ _ _ (by omega), Nat.add_zero, Array.getElem?_setIfInBounds_self_of_lt (by omega)]
    rfl
  | v :: r, cs, o, j + 1, h, hj => by
    simp only [List.length_cons] at h hj
    unfold writeAt
    rw [show o + (j + 1) = o + 1 + j from by omega, writeAt_in r _ _ _ (by simp; omega) (by omega)]
    simp
def vals (p : Pk) : List Value := [.int .i64 p.w, .int .i64 p.h, .int .i64 p.s, .bool p.fx, .bool p.fy, .bool p.ex, .int .i64 p.an, .int .i64 p.px, .int .i64 p.py]
/-- the items lie in the cells from o on -/
def In9 (cs : Array Value) (o : Nat) (p : Pk) : Prop := ∀ j, j < 9 → cs[o + j]? = (vals p)[j]?
theorem In9.cells {w : World} {b : Nat} {cs : Array Value} {T : TypeId} {fz : Nat × Nat} {o : Nat} {p : Pk} (hh : w.heap[b]? = some (.cells cs T fz)) (h : In9 cs o p) : Cells9 w b o p := by
  have e : ∀ j, j < 9 → w.cell? ⟨b, o + j, none⟩ = (vals p)[j]? := fun j hj => (cellH hh _).trans (h j hj)
  exact ⟨e 0 (by omega), e 1 (by omega), e 2 (by omega), e 3 (by omega), e 4 (by omega), e 5 (by omega), e 6 (by omega), e 7 (by omega), e 8 (by omega)⟩
theorem In9.write {cs : Array Value} {o : Nat} (p : Pk) (h : o + 9 ≤ cs.size) : In9 (writeAt cs o (vals p)) o p := fun j hj => writeAt_in _ _ _ _ h hj
theorem In9.keep {cs : Array Value} {o o' : Nat} {p q : Pk} (h : In9 cs o' q) (hd : o' + 9 ≤ o ∨ o + 9 ≤ o') : In9 (writeAt cs o (vals p)) o' q := fun j hj => by
  rcases hd with hd | hd
  · rw [writeAt_lo _ _ _ _ (by omega)]; exact h j hj
  · rw [writeAt_hi _ _ _ _ (by simp [vals]; omega)]; exact h j hj
/-- cells of a block that are there -/
theorem there {w : World} {b : Nat} {cs : Array Value} {T : TypeId} {fz : Nat × Nat} (h : w.heap[b]? = some (.cells cs T fz)) {i : Nat} (hi : i < cs.size) : ∃ v, w.cell? ⟨b, i, none⟩ = some v :=
  ⟨cs[i], (cellH h i).trans (by simp [hi])⟩
end Go.Proofs.YtgdkionmeacalabGreat
end
section
namespace Go.Proofs.YtgdkionmeacalabGreat
open Go.RowKit
set_option linter.unusedVariables false
set_option maxHeartbeats 1000000
def Blk9 (w : World) (g : Nat) (L : List Pk) : Prop := ∃ cs : Array Value, w.heap[g]? = some (.cells cs 32 (0, 0)) ∧ cs.size = L.length * 9 ∧ ∀ i p, L[i]? = some p → In9 cs (i * 9) p
theorem Blk9.keep {w w' : World} {g : Nat} {L : List Pk} (h : Blk9 w g L) (hb : Below w.heap.size w w') : Blk9 w' g L := by
  obtain ⟨cs, hh, hs, hc⟩ := h
  exact ⟨cs, (hb.block g (Array.getElem?_eq_some_iff.1 hh).1).trans hh, hs, hc⟩
theorem Blk9.lt {w : World} {g : Nat} {L : List Pk} (h : Blk9 w g L) : g < w.heap.size := by obtain ⟨cs, hh, _⟩ := h; exact (Array.getElem?_eq_some_iff.1 hh).1
end Go.Proofs.YtgdkionmeacalabGreat
end
section
namespace Go.Proofs.YtgdkionmeacalabGreat
open Go.RowKit
set_option linter.unusedVariables false
set_option maxHeartbeats 1000000
attribute [local go_sem] growUpon_value growUpon_skip growUpon_enter
end Go.Proofs.YtgdkionmeacalabGreat
end
section
set_option linter.unusedVariables false
namespace Go.Proofs.YtgdkionmeacalabGreat
/-- the share of the first item: what is left of the answer, the room, the count -/
def shareGo : List Pk → Bool → Int → Int → Int → Int
  | [], d, sh, rm, n => mn sh (mx rm 0 / n)
  | p :: r, d, sh, rm, n => if p.down = d then shareGo r d sh (rm - p.need d) (if p.ex then n + 1 else n) else shareGo r d (mn sh (mx (rm - p.need d) 0 / n)) rm n
def halfI (r n : Int) : Int := if r < 0 then 0 else r / n
theorem drop_cons {L : List Pk} {k : Nat} {p : Pk} (h : L[k]? = some p) : L.drop k = p :: L.drop (k + 1) := by
  have hk := (List.getElem?_eq_some_iff.1 h).1
  have e := (List.getElem?_eq_some_iff.1 h).2
  rw [List.drop_eq_getElem_cons hk, e]
end Go.Proofs.YtgdkionmeacalabGreat
end
section
namespace Go.Proofs.YtgdkionmeacalabGreat
open Go.RowKit
set_option linter.unusedVariables false
set_option maxHeartbeats 1000000
attribute [local go_sem 5000] run_mx run_mn
theorem belowN' {B : Nat} {a w : World} (h : Below B a w) (n : Nat) : Below B a (w.drewN n) := ⟨h.os, h.tape, h.output, h.size, h.block⟩
theorem isDown_x (p : Pk) (ex : Bool) (w : World) : Calls Tryz.prog 146 #[.agg #[.int .i64 p.w, .int .i64 p.h, .int .i64 p.s, .bool p.fx, .bool p.fy, .bool ex, .int .i64 p.an, .int .i64 p.px, .int .i64 p.py]] w fun e w' => e = .returned (.bool p.down) ∧ Below w.heap.size w w' := by
  by_cases h0 : p.s = 0
  · have e0 : (p.s == 0) = true := by simpa using h0
    go_enter Tryz.func146, Tryz.ntmps146
    go_wp2
    go_ret
    exact ⟨ret_bool (by simp [Pk.down, h0]), balloc (Below.refl _ _)⟩
  · have e0 : (p.s == 0) = false := by simpa using h0
    by_cases h1 : p.s = 1
    · have e1 : (p.s == 1) = true := by simpa using h1
      go_enter Tryz.func146, Tryz.ntmps146
      go_wp2
      go_ret
      exact ⟨ret_bool (by simp [Pk.down, h1]), balloc (Below.refl _ _)⟩
    · have e1 : (p.s == 1) = false := by simpa using h1
      go_enter Tryz.func146, Tryz.ntmps146
      go_wp2
      go_ret
      exact ⟨ret_bool (by simp [Pk.down, h0, h1]), balloc (Below.refl _ _)⟩
theorem isDown_v (p : Pk) (w : World) : Calls Tryz.prog 146 #[.agg #[.int .i64 p.w, .int .i64 p.h, .int .i64 p.s, .bool p.fx, .bool p.fy, .bool p.ex, .int .i64 p.an, .int .i64 p.px, .int .i64 p.py]] w fun e w' => e = .returned (.bool p.down) ∧ Below w.heap.size w w' := isDown_x p p.ex w
theorem upright_v (s : Int) (w : World) : Calls Tryz.prog 76 #[.int .i64 s] w fun e w' => e = .returned (.bool (decide (s = 0 ∨ s = 1))) ∧ w = w' := by
  by_cases h0 : s = 0
  · have e0 : (s == 0) = true := by simpa using h0
    go_enter Tryz.func76, Tryz.ntmps76
    go_wp2
    go_ret
    exact ⟨ret_bool (by simp [h0]), rfl⟩
  · have e0 : (s == 0) = false := by simpa using h0
    by_cases h1 : s = 1
    · have e1 : (s == 1) = true := by simpa using h1
      go_enter Tryz.func76, Tryz.ntmps76
      go_wp2
      go_ret
      exact ⟨ret_bool (by simp [h1]), rfl⟩
    · have e1 : (s == 1) = false := by simpa using h1
      go_enter Tryz.func76, Tryz.ntmps76
      go_wp2
      go_ret
      exact ⟨ret_bool (by simp [h0, h1]), rfl⟩
theorem need_w (p : Pk) (d : Bool) (w : World) (h : p.big) : Calls Tryz.prog 189 #[.agg #[.int .i64 p.w, .int .i64 p.h, .int .i64 p.s, .bool p.fx, .bool p.fy, .bool p.ex, .int .i64 p.an, .int .i64 p.px, .int .i64 p.py], .bool d] w fun e w' => e = .returned (.int .i64 (p.need d)) ∧ Below w.heap.size w w' := by
  obtain ⟨⟨a1, a2⟩, ⟨a3, a4⟩, _, _, ⟨a5, a6⟩, ⟨a7, a8⟩⟩ := h
  cases d
  all_goals
    go_enter Tryz.func189, Tryz.ntmps189
    go_wp2
    go_ret
    exact ⟨ret_int rfl, balloc (Below.refl _ _)⟩
theorem outer_w (p : Pk) (w : World) (h : p.big) : Calls Tryz.prog 75 #[.agg #[.int .i64 p.w, .int .i64 p.h, .int .i64 p.s, .bool p.fx, .bool p.fy, .bool p.ex, .int .i64 p.an, .int .i64 p.px, .int .i64 p.py]] w fun e w' => e = .returned (.tuple #[.int .i64 (p.need false), .int .i64 (p.need true)]) ∧ Below w.heap.size w w' := by
  obtain ⟨⟨a1, a2⟩, ⟨a3, a4⟩, _, _, ⟨a5, a6⟩, ⟨a7, a8⟩⟩ := h
  have e1 : IntKind.i64.wrap (2 * p.px) = 2 * p.px := IntWalk.i64_in _ (by omega)
  have e2 : IntKind.i64.wrap (2 * p.py) = 2 * p.py := IntWalk.i64_in _ (by omega)
  have e3 : IntKind.i64.wrap (p.w + 2 * p.px) = p.w + 2 * p.px := IntWalk.i64_in _ (by omega)
  have e4 : IntKind.i64.wrap (p.h + 2 * p.py) = p.h + 2 * p.py := IntWalk.i64_in _ (by omega)
  go_enter Tryz.func75, Tryz.ntmps75
  go_wp2_with fail
  go_quiet (fail)
  clear e1 e2 e3 e4
  go_wp2
  go_ret2
  exact ⟨rfl, belowN' (balloc (Below.refl _ _)) _⟩
end Go.Proofs.YtgdkionmeacalabGreat
end
section
set_option linter.unusedVariables false
namespace Go.Proofs.YtgdkionmeacalabGreat
structure Rc where
  x : Int
  y : Int
  u : Int
  v : Int
def Rc.ok (r : Rc) : Bool := vr r.x r.y r.u r.v
/-- the piece at a side, and the rest -/
def cutP (r : Rc) (s n : Int) : Rc × Rc :=
  if s = 0 then (⟨r.x, r.y, r.u, mn n r.v⟩, ⟨r.x, r.y + mn n r.v, r.u, r.v - mn n r.v⟩)
  else if s = 1 then (⟨r.x, r.y + (r.v - mn n r.v), r.u, mn n r.v⟩, ⟨r.x, r.y, r.u, r.v - mn n r.v⟩)
  else if s = 2 then (⟨r.x, r.y, mn n r.u, r.v⟩, ⟨r.x + mn n r.u, r.y, r.u - mn n r.u, r.v⟩)
  else (⟨r.x + (r.u - mn n r.u), r.y, mn n r.u, r.v⟩, ⟨r.x, r.y, r.u - mn n r.u, r.v⟩)
def Rc.size (r : Rc) (d : Bool) : Int := if d then r.v else r.u
/-- how much the first item has more -/
def moreOf : List Pk → Rc → Int
  | [], _ => 0
  | p :: r, z => if p.ex then shareGo (p :: r) p.down (z.size p.down) (z.size p.down) 0 else 0
def takeOf (p : Pk) (r : List Pk) (z : Rc) : Int := p.need p.down + moreOf (p :: r) z
def parcM : List Pk → Rc → List Rc × Rc
  | [], z => ([], z)
  | p :: r, z => ((cutP z p.s (takeOf p r z)).1 :: (parcM r (cutP z p.s (takeOf p r z)).2).1, (parcM r (cutP z p.s (takeOf p r z)).2).2)
end Go.Proofs.YtgdkionmeacalabGreat
end
section
set_option linter.unusedVariables false
namespace Go.Proofs.YtgdkionmeacalabGreat
/-- what items need together: across, down -/
def reqM : List Pk → Int × Int
  | [] => (0, 0)
  | p :: t => if p.down then (mx (reqM t).1 (p.need false), (reqM t).2 + p.need true) else ((reqM t).1 + p.need false, mx (reqM t).2 (p.need true))
def reqD (L : List Pk) (d : Bool) : Int := if d then (reqM L).2 else (reqM L).1
theorem reqD_nil (d : Bool) : reqD [] d = 0 := by cases d <;> rfl
theorem reqD_same {p : Pk} {t : List Pk} {d : Bool} (h : p.down = d) : reqD (p :: t) d = reqD t d + p.need d := by
  cases d <;> simp [reqD, reqM, h]
theorem reqD_other {p : Pk} {t : List Pk} {d : Bool} (h : ¬ p.down = d) : reqD (p :: t) d = mx (reqD t d) (p.need d) := by
  cases d
  · have h' : p.down = true := by simpa using h
    simp [reqD, reqM, h']
  · have h' : p.down = false := by simpa using h
    simp [reqD, reqM, h']
theorem reqM_bdW : ∀ {L : List Pk}, (∀ p ∈ L, p.big) → 0 ≤ (reqM L).1 ∧ (reqM L).1 ≤ 1000000000020 * L.length ∧ 0 ≤ (reqM L).2 ∧ (reqM L).2 ≤ 1000000000020 * L.length
  | [], _ => by simp [reqM]
  | p :: t, h => by
    obtain ⟨a1, a2, a3, a4⟩ := reqM_bdW (L := t) (fun q hq => h q (List.mem_cons_of_mem _ hq))
    have n1 := Pk.need_bdW (h p List.mem_cons_self) false
    have n2 := Pk.need_bdW (h p List.mem_cons_self) true
    have m1 := mx_spec (reqM t).1 (p.need false)
    have m2 := mx_spec (reqM t).2 (p.need true)
    simp only [reqM, List.length_cons]
    split <;> (dsimp only; omega)
/-- the item at the other end -/
def Pk.flip (p : Pk) : Pk := { p with s := if p.s = 0 then 1 else if p.s = 1 then 0 else if p.s = 2 then 3 else 2 }
/-- a rectangle in another one -/
def Rc.inn (a b : Rc) : Prop := a.x ≤ b.x ∧ a.y ≤ b.y ∧ b.x + b.u ≤ a.x + a.u ∧ b.y + b.v ≤ a.y + a.v
/-- they have a common point -/
def Rc.met (a b : Rc) : Prop := 0 < mn (a.x + a.u) (b.x + b.u) - mx a.x b.x ∧ 0 < mn (a.y + a.v) (b.y + b.v) - mx a.y b.y
def Rc.area (r : Rc) : Int := r.u * r.v
def areas : List Rc → Int
  | [] => 0
  | r :: t => r.area + areas t
end Go.Proofs.YtgdkionmeacalabGreat
end
section
namespace Go.Proofs.YtgdkionmeacalabGreat
open Go.RowKit
set_option linter.unusedVariables false
set_option maxHeartbeats 4000000
attribute [local go_sem 5000] run_mx run_mn
attribute [local go_sem] Oper.semAt_some
/-- what comes: an index, and a valid item -/
structure BkE where
  i : Int
  p : Pk
  ok : p.big
def encB (x : BkE) : Array Value := #[.int .i64 x.i, .agg #[.int .i64 x.p.w, .int .i64 x.p.h, .int .i64 x.p.s, .bool x.p.fx, .bool x.p.fy, .bool x.p.ex, .int .i64 x.p.an, .int .i64 x.p.px, .int .i64 x.p.py]]
/-- what a round must keep -/
def KpB (n0 Bs : Nat) (W W' : World) : Prop := Below n0 W W' ∧ W'.heap[Bs]? = W.heap[Bs]?
theorem KpB.cell {n0 Bs : Nat} {W W' : World} (h : KpB n0 Bs W W') (o : Nat) : W'.cell? ⟨Bs, o, none⟩ = W.cell? ⟨Bs, o, none⟩ := World.cell?_of_block h.2
theorem KpB.refl (n0 Bs : Nat) (W : World) : KpB n0 Bs W W := ⟨Below.refl _ _, rfl⟩
theorem KpB.trans {n0 Bs : Nat} {A B C : World} (h : KpB n0 Bs A B) (k : KpB n0 Bs B C) : KpB n0 Bs A C := ⟨h.1.trans k.1, k.2.trans h.2⟩
/-- the slice reads as the list, in a block below n0 -/
def PVn (n0 : Nat) (W : World) (A : Option Addr) (L : List Pk) : Prop := 0 < L.length → ∃ b off, A = some ⟨b, off, none⟩ ∧ b < n0 ∧ PS W b off L
theorem PVn.below {n0 : Nat} {W W' : World} {A : Option Addr} {L : List Pk} (h : PVn n0 W A L) (hb : Below n0 W W') : PVn n0 W' A L := fun h0 =>
  let ⟨b, off, e, hl, hp⟩ := h h0; ⟨b, off, e, hl, fun i p hi => (hp i p hi).keep (hb.block b hl)⟩
set_option maxRecDepth 100000 in
theorem bk1_in (F : Fence) (n : Nat) (hF : F.fn 194) (hro : F.round = none) (hn : 1 ≤ n) (l Bs n0 : Nat) (A : Option Addr) (c : Nat) (L : List Pk) (hL : L.length ≤ 10) (hok : ∀ p ∈ L, p.big) (J Jx : List BkE → World → Prop)
    (hY : ∀ pre x W, J pre W → pre.length < L.length → YieldAt F (n - 1) Tryz.prog l (encB x) W fun e W' =>
      (e = .returned (.bool true) ∧ J (pre ++ [x]) W' ∧ KpB n0 Bs W W') ∨ (e = .returned (.bool false) ∧ Jx (pre ++ [x]) W'))
    (W : World) (hBs : W.cell? ⟨Bs, 0, none⟩ = some (.slice A L.length c)) (hp : PVn n0 W A L) (h0 : J [] W) :
    CallsIn F n Tryz.prog 194 #[.func (.yield l) #[] #[], .pointer (some ⟨Bs, 0, none⟩)] W fun e W' => (∃ v, e = .returned v) ∧
      ((∃ ys, ys.map BkE.p = L.reverse ∧ J ys W') ∨ (∃ pre, True ∧ Jx pre W')) := by
  refine callsIn_of_wp Tryz.func194 rfl hF ?_ hro
  simp only [Tryz.ntmps194, List.size_toArray, List.length_cons, List.length_nil, Nat.reduceAdd, Nat.reduceSub, Array.replicate_succ, Array.replicate_zero, List.push_toArray, List.append_toArray, List.nil_append, List.cons_append]
  gi_wp2
  gi_loopw [3] (fun i wr => ∃ k : Nat, k ≤ L.length ∧ i = .int .i64 ((k : Int) - 1) ∧ (∃ ys, ys.map BkE.p = (L.drop k).reverse ∧ J ys wr) ∧ KpB n0 Bs W wr)
    (fun i _ => (intOf i + 1).toNat)
  case atStart => exact ⟨L.length, Nat.le_refl _, rfl, ⟨[], by simp, h0⟩, KpB.refl _ _ _⟩
  case round =>
    obtain ⟨k, hk, rfl, ⟨ys, hys, hJs⟩, hK⟩ := hrel
    rcases k with _ | j
    · have hd : decide (((0 : Nat) : Int) - 1 ≥ 0) = false := by simp
      rw [List.drop_zero] at hys
      have HYS := Lib.hid hys
      clear hys
      gi_wp2
      go_end0
      exact ⟨⟨_, rfl⟩, .inl ⟨ys, HYS.out, hJs⟩⟩
    · have e1 : ((j + 1 : Nat) : Int) - 1 = (j : Int) := by omega
      rw [e1]
      have hlt : j < L.length := by omega
      have hd : decide ((j : Int) ≥ 0) = true := by simp
      have hd2 : decide ((0 : Int) ≤ (j : Int)) = true := by simp
      obtain ⟨b, off, rfl, hb, hps⟩ := hp.below hK.1 (by omega)
      have hget : L[j]? = some L[j] := List.getElem?_eq_getElem hlt
      obtain ⟨c0, c1, c2, c3, c4, c5, c6, c7, c8⟩ := hps j _ hget
      have hpok : L[j].big := hok _ (List.getElem_mem hlt)
      have hdrop := drop_cons hget
      generalize hx : L[j] = p at *
      have hl : ys.length < L.length := by
        have := congrArg List.length hys
        simp at this; omega
      have hcs := (hK.cell 0).trans hBs
      obtain ⟨fn, tmps, assign, body, hy, hR⟩ := hY ys ⟨j, p, hpok⟩ wr hJs hl
      dsimp only [encB] at hy
      have HYS := Lib.hid hys
      have HD := Lib.hid hdrop
      have HK := Lib.hid hK
      have HG := Lib.hid hget
      have HX := Lib.hid hx
      have HPS := Lib.hid hps
      clear hys hdrop hK hget hx hps e1
      have hjs : IntKind.i64.wrap ((j : Int) - 1) = (j : Int) - 1 := IntWalk.i64_in _ (by omega)
      gi_wp2
      refine hR.mono ?_
      rintro e W3 (⟨rfl, hJ3, hk3⟩ | ⟨rfl, hJx3⟩)
      · gi_wp2
        go_roundw
        case rel => exact ⟨j, by omega, by go_num, ⟨_, by rw [HD.out, List.reverse_cons, List.map_append, HYS.out]; rfl, hJ3⟩, HK.out.trans hk3⟩
        case measure => simp [intOf]
      · gi_wp2
        refine bodyPost_ret (results_none rfl _ _ _) rfl ?_
        exact ⟨⟨_, rfl⟩, .inr ⟨_, trivial, hJx3⟩⟩
end Go.Proofs.YtgdkionmeacalabGreat
end
section
namespace Go.Proofs.YtgdkionmeacalabGreat
open Go.RowKit
set_option linter.unusedVariables false
set_option maxHeartbeats 4000000
attribute [local go_sem 5000] run_mx run_mn
attribute [local go_sem] Oper.semAt_some
set_option maxRecDepth 100000 in
theorem backward_in (F : Fence) (n : Nat) (hF : F.fn 188) (hro : F.round = none) (a : Option Addr) (len cap : Nat) (w : World) :
    CallsIn F n Tryz.prog 188 #[.slice a len cap] w fun e w' => e = .returned (.func (.func 194) #[] #[.pointer (some ⟨w.heap.size, 0, none⟩)]) ∧ w' = w.alloc (.cells #[.slice a len cap] 93) := by
  refine callsIn_of_wp Tryz.func188 rfl hF ?_ hro
  simp only [Tryz.ntmps188, List.size_toArray, List.length_cons, List.length_nil, Nat.reduceAdd, Nat.reduceSub, Array.replicate_succ, Array.replicate_zero, List.push_toArray, List.append_toArray, List.nil_append, List.cons_append]
  gi_wp2
  go_ret
  exact ⟨rfl, rfl⟩
theorem bk_stops (F : Fence) (n : Nat) (hF : F.fn 194) (hro : F.round = none) (hn : 1 ≤ n) (Bs n0 : Nat) (A : Option Addr) (c : Nat) (L : List Pk) (hL : L.length ≤ 10) (hok : ∀ p ∈ L, p.big) (w : World) (hBs : Bs < w.heap.size) (hn0 : n0 ≤ w.heap.size)
    (hc : w.cell? ⟨Bs, 0, none⟩ = some (.slice A L.length c)) (hp : PVn n0 w A L) :
    SeqStopsK F n Tryz.prog 194 #[.pointer (some ⟨Bs, 0, none⟩)] encB (KpB n0 Bs) (fun ys => ys.map BkE.p = L.reverse) (fun _ => True) L.length w := fun l J Jx W hW _ _ hY h0 =>
  bk1_in F n hF hro hn l Bs n0 A c L hL hok J Jx hY W ((hW.cell (p := ⟨Bs, 0, none⟩) hBs).trans hc) (hp.below (hW.mono hn0)) h0
/-- what the items that have come need -/
def accB (d : Bool) : List BkE → Int
  | [] => 0
  | x :: t => if x.p.down = d then accB d t + x.p.need d else mx (accB d t) (x.p.need d)
theorem accB_bd (d : Bool) : ∀ ys : List BkE, 0 ≤ accB d ys ∧ accB d ys ≤ 1000000000020 * ys.length
  | [] => by simp [accB]
  | x :: t => by
    have := accB_bd d t
    have nb := Pk.need_bdW x.ok d
    have m := mx_spec (accB d t) (x.p.need d)
    simp only [accB, List.length_cons]
    split <;> omega
def acc (d : Bool) (ys : List BkE) : Int := accB d ys.reverse
theorem acc_bd (d : Bool) (ys : List BkE) : 0 ≤ acc d ys ∧ acc d ys ≤ 1000000000020 * ys.length := by have := accB_bd d ys.reverse; rwa [List.length_reverse] at this
theorem acc_same {d : Bool} {ys : List BkE} {x : BkE} (h : x.p.down = d) : acc d (ys ++ [x]) = acc d ys + x.p.need d := by
  simp [acc, accB, h]
theorem acc_other {d : Bool} {ys : List BkE} {x : BkE} (h : ¬ x.p.down = d) : acc d (ys ++ [x]) = mx (acc d ys) (x.p.need d) := by
  simp only [acc, List.reverse_append, List.reverse_cons, List.reverse_nil, List.nil_append, List.cons_append, accB, if_neg h]
theorem accB_req {d : Bool} : ∀ {ys : List BkE} {L : List Pk}, ys.map BkE.p = L → accB d ys = reqD L d
  | [], L, h => by
    simp at h; subst h
    rw [reqD_nil]; rfl
  | x :: t, L, h => by
    simp at h
    subst h
    have ih := accB_req (d := d) (ys := t) rfl
    by_cases hd : x.p.down = d
    · rw [reqD_same hd, ← ih, accB, if_pos hd]
    · rw [reqD_other hd, ← ih, accB, if_neg hd]
theorem acc_req {d : Bool} {ys : List BkE} {L : List Pk} (h : ys.map BkE.p = L.reverse) : acc d ys = reqD L d := by
  refine accB_req ?_
  rw [List.map_reverse, h, List.reverse_reverse]
theorem isDown_b (p : Pk) (b : Bool) (h : p.down = b) (w : World) : Calls Tryz.prog 146 #[.agg #[.int .i64 p.w, .int .i64 p.h, .int .i64 p.s, .bool p.fx, .bool p.fy, .bool p.ex, .int .i64 p.an, .int .i64 p.px, .int .i64 p.py]] w fun e w' => e = .returned (.bool b) ∧ Below w.heap.size w w' := by rw [← h]; exact isDown_v p w
theorem bdr {W w' : World} (h : Below W.drew.heap.size W.drew w') : Below W.heap.size W w' := (Below.refl _ _).drew.trans h
theorem keepsFrom_below {B : Nat} {W W' : World} (h : Below W.heap.size W W') : KeepsFrom B W W' := ⟨h.size, fun k o _ hk _ => (h.block k (Array.getElem?_eq_some_iff.1 hk).1).trans hk⟩
theorem kpB_below {n0 Bs : Nat} {W W' : World} (h : Below W.heap.size W W') (h0 : n0 ≤ W.heap.size) (hs : Bs < W.heap.size) : KpB n0 Bs W W' := ⟨h.mono h0, h.block Bs hs⟩
theorem round_end {w W w2 : World} {B0 : Nat} {A : Option Addr} {c : Nat} {L : List Pk} {d : Bool} {pre : List BkE} {x : BkE} {v u : Int} {T1 T2 T3 : TypeId} (b2 : Below W.heap.size W w2) (bS : Boxed W (w.heap.size + 1) T1 (.int .i64 u)) (bD : Boxed W w.heap.size T2 (.bool d)) (bL : Boxed W (w.heap.size + 1 + 1) T3 (.slice A L.length c)) (hB : Below w.heap.size w W) (hl : w.heap.size ≤ W.heap.size) (hv : acc d (pre ++ [x]) = v) :
    KeepsFrom B0 W (w2.setCell ⟨w.heap.size + 1, 0, none⟩ (.int .i64 v)) ∧ KpB w.heap.size (w.heap.size + 1 + 1) W (w2.setCell ⟨w.heap.size + 1, 0, none⟩ (.int .i64 v)) ∧
      ((Boxed (w2.setCell ⟨w.heap.size + 1, 0, none⟩ (.int .i64 v)) (w.heap.size + 1) T1 (.int .i64 (acc d (pre ++ [x]))) ∧ (Boxed (w2.setCell ⟨w.heap.size + 1, 0, none⟩ (.int .i64 v)) w.heap.size T2 (.bool d) ∧ Boxed (w2.setCell ⟨w.heap.size + 1, 0, none⟩ (.int .i64 v)) (w.heap.size + 1 + 1) T3 (.slice A L.length c))) ∧
        Below w.heap.size w (w2.setCell ⟨w.heap.size + 1, 0, none⟩ (.int .i64 v))) := by
  have cS : Boxed w2 (w.heap.size + 1) T1 (.int .i64 u) := (b2.block _ bS.lt).trans bS
  have cD : Boxed w2 w.heap.size T2 (.bool d) := (b2.block _ bD.lt).trans bD
  have cL : Boxed w2 (w.heap.size + 1 + 1) T3 (.slice A L.length c) := (b2.block _ bL.lt).trans bL
  refine ⟨(keepsFrom_below b2).trans ((KeepsOthers.setCell _ _ _).from _), (kpB_below b2 hl bL.lt).trans ⟨(Below.refl _ _).setCell (p := ⟨w.heap.size + 1, 0, none⟩) (by simp) _, Below.heap_setCell _ ⟨w.heap.size + 1, 0, none⟩ _ _ (by simp)⟩, ⟨⟨by rw [hv]; exact cS.set _, cD.other (by omega) _, cL.other (by omega) _⟩, (hB.trans (b2.mono hl)).setCell (p := ⟨w.heap.size + 1, 0, none⟩) (by simp) _⟩⟩
set_option maxRecDepth 100000 in
theorem packRequest_w (A : Option Addr) (c : Nat) (L : List Pk) (d : Bool) (w : World) (h : PV w A L) (hok : ∀ p ∈ L, p.big) (h7 : L.length ≤ 10) :
    Calls Tryz.prog 185 #[.slice A L.length c, .bool d] w fun e W' => e = .returned (.int .i64 (reqD L d)) ∧ Below w.heap.size w W' := by
  have HOK := Lib.hid hok
  clear hok
  refine (callsIn_wide (n := 6)).1 ?_
  refine callsIn_of_wp_marks Tryz.func185 rfl trivial ?_ rfl
  simp only [Tryz.ntmps185, List.size_toArray, List.length_cons, List.length_nil, Nat.reduceAdd, Nat.reduceSub, Array.replicate_succ, Array.replicate_zero, List.push_toArray, List.append_toArray, List.nil_append, List.cons_append]
  gi_wp2_with (refine ⟨trivial, ?_⟩; gi_at_call 188; refine (backward_in Fence.wide _ trivial rfl _ _ _ _).mono ?_; rintro e w' ⟨rfl, rfl⟩)
  have bL := Boxed.new ((w.alloc (.cells #[.bool d] 4)).alloc (.cells #[.int .i64 0] 3)) 93 (.slice A L.length c)
  have bS := (Boxed.new (w.alloc (.cells #[.bool d] 4)) 3 (.int .i64 0)).alloc (.cells #[.slice A L.length c] 93)
  have bD := ((Boxed.new w 4 (.bool d)).alloc (.cells #[.int .i64 0] 3)).alloc (.cells #[.slice A L.length c] 93)
  simp only [World.size_alloc] at bL bS bD
  have hB0 : Below w.heap.size w (((w.alloc (.cells #[.bool d] 4)).alloc (.cells #[.int .i64 0] 3)).alloc (.cells #[.slice A L.length c] 93)) := (((Below.refl _ w).alloc (Nat.le_refl _) _).alloc (by simp) _).alloc (by simp; omega) _
  have hsz : (((w.alloc (.cells #[.bool d] 4)).alloc (.cells #[.int .i64 0] 3)).alloc (.cells #[.slice A L.length c] 93)).heap.size = w.heap.size + 3 := by simp
  obtain ⟨W0, hW0⟩ : ∃ W0, ((w.alloc (.cells #[.bool d] 4)).alloc (.cells #[.int .i64 0] 3)).alloc (.cells #[.slice A L.length c] 93) = W0 := ⟨_, rfl⟩
  rw [hW0] at bL bS bD hB0 hsz ⊢
  clear hW0
  have hp0 : PVn w.heap.size W0 A L := PVn.below (fun h0 => let ⟨b, off, e, hl, hp⟩ := h.cells h0; ⟨b, off, e, hl, hp⟩) hB0
  refine wpIn_rangeFunc_ownH rfl (by omega) (gf := 194) (lb := #[.pointer (some ⟨w.heap.size + 1 + 1, 0, none⟩)]) rfl trivial (enters_of Tryz.func194 (by kernel_rfl) rfl)
    (bk_stops Fence.wide _ trivial rfl (by omega) (w.heap.size + 1 + 1) w.heap.size A c L h7 HOK.out W0 (by omega) (by omega) bL.cell hp0) KpB.trans
    (fun W l o o' hl ho hc hw => ⟨belowK_b (w := W0) (by omega) W l o o' hl ho hc hw, World.putObj_heap_other (by omega)⟩) (Below.refl _ _) (fun _ => rfl)
    (fun pre W => (Boxed W (w.heap.size + 1) 3 (.int .i64 (acc d pre)) ∧ (Boxed W w.heap.size 4 (.bool d) ∧ Boxed W (w.heap.size + 1 + 1) 93 (.slice A L.length c))) ∧ Below w.heap.size w W)
    (fun _ _ _ => False)
    (OwnFrom.and (OwnFrom.and (Own.from (boxed_own _ _ _) _) (OwnFrom.and (Own.from (boxed_own _ _ _) _) (Own.from (boxed_own _ _ _) _))) (ownFrom_below (Nat.le_refl _) (by omega)))
    (fun _ _ _ _ _ hs _ _ => hs)
    ⟨⟨bS, bD, bL⟩, hB0⟩
    (fun x a' W => ∃ Bx, w.heap.size + 2 < Bx ∧ W.heap[Bx]? = some (.cells #[.int .i64 x.p.w, .int .i64 x.p.h, .int .i64 x.p.s, .bool x.p.fx, .bool x.p.fy, .bool x.p.ex, .int .i64 x.p.an, .int .i64 x.p.px, .int .i64 x.p.py] 32 (0, 0)) ∧ a' = { tmps := #[.slice A L.length c, .bool d, undef, .pointer (some ⟨w.heap.size, 0, none⟩), .int .i64 0, .pointer (some ⟨w.heap.size + 1, 0, none⟩), undef, .pointer (some ⟨Bx, 0, none⟩), .slice A L.length c, .func (.func 194) #[] #[.pointer (some ⟨w.heap.size + 1 + 1, 0, none⟩)], .int .i64 x.i, .agg #[.int .i64 x.p.w, .int .i64 x.p.h, .int .i64 x.p.s, .bool x.p.fx, .bool x.p.fy, .bool x.p.ex, .int .i64 x.p.an, .int .i64 x.p.px, .int .i64 x.p.py], undef, undef, undef, undef, undef, undef, undef, undef, undef, undef, undef, undef, undef, undef, undef], defers := [] })
    (fun x a' _ X Y row hs hg hr => by
      obtain ⟨Bx, h1, h2, h3⟩ := hs
      exact ⟨Bx, h1, (hg.block Bx (Array.getElem?_eq_some_iff.1 h2).1 (fun e => by
        obtain ⟨_, o, ho, hoc⟩ := hr Bx e.symm
        rw [h2] at ho
        obtain rfl := Option.some.inj ho
        simp [Obj.isCells] at hoc)).trans h2, h3⟩)
    ?assign ?body ?done ?stop
  case assign =>
    rintro l pre x W K ⟨⟨bS1, bD1, bL1⟩, hB1⟩ hK
    have hlt2 := bL1.lt
    simp only [encB]
    gi_wp2
    refine hK _ _ ((KeepsOthers.alloc _ _).from _) ⟨(Below.refl _ W).alloc hB1.size _, Below.heap_alloc _ _ _ (by omega)⟩ ⟨⟨bS1.alloc _, bD1.alloc _, bL1.alloc _⟩, hB1.alloc hB1.size _⟩ ⟨W.heap.size, by omega, heap_new _ _, rfl⟩
  case body =>
    rintro l pre x a' W hl ⟨r, hr⟩ ⟨⟨bS1, bD1, bL1⟩, hB1⟩ ⟨Bx, hBx, hX, rfl⟩ hlt
    have cS := bS1.cell
    have fS := bS1.frozen
    have cD := bD1.cell
    have sS := bS1.lt
    have sD := bD1.lt
    have sL := bL1.lt
    have sX : Bx < W.heap.size := (Array.getElem?_eq_some_iff.1 hX).1
    obtain ⟨a1, a2⟩ := acc_bd d pre
    have nb := Pk.need_bdW x.ok d
    obtain ⟨c0, c1, c2, c3, c4, c5, c6, c7, c8⟩ := b9c hX
    have hmx : Tryz.prog.follows .mixedOrders = true := by kernel_rfl
    have hn1 : 1 ≤ 6 - 1 - 1 := by omega
    have hl0 : w.heap.size ≤ W.heap.size := hB1.size
    cases d <;> cases hdn : x.p.down
    · have hacc := acc_same (ys := pre) (x := x) (d := false) hdn
      have HA := Lib.hid hacc
      clear hacc
      gi_wp2
      gi_region_with_o (refine ⟨trivial, ?_⟩; gi_at_call 146; refine (CallsIn.inRound l (callsIn_wide.2 (isDown_b x.p false hdn _))).mono ?_; rintro e w1 ⟨rfl, hb1⟩; have b1 := bdr hb1; have kD := (b1.cell (p := ⟨w.heap.size, 0, none⟩) sD).trans cD; have kS := (b1.cell (p := ⟨w.heap.size + 1, 0, none⟩) sS).trans cS; have kX := (b1.block Bx sX).trans hX; obtain ⟨k0, k1, k2, k3, k4, k5, k6, k7, k8⟩ := b9c kX; have z1 := b1.size; have tS := Nat.lt_of_lt_of_le sS z1; have tD := Nat.lt_of_lt_of_le sD z1)
      all_goals
        gi_wp2
        gi_region_with_o (refine ⟨trivial, ?_⟩; gi_at_call 189; refine (CallsIn.inRound l (callsIn_wide.2 (need_w x.p false _ x.ok))).mono ?_; rintro e w2 ⟨rfl, hb2⟩; have b2 := b1.trans ((bdr hb2).mono z1); have jD := (b2.cell (p := ⟨w.heap.size, 0, none⟩) sD).trans cD; have jS := (b2.cell (p := ⟨w.heap.size + 1, 0, none⟩) sS).trans cS; have fS2 := (b2.frozen (p := ⟨w.heap.size + 1, 0, none⟩) sS).trans fS; clear kS kD k0 k1 k2 k3 k4 k5 k6 k7 k8)
        all_goals
          gi_wp2
          all_goals (try go_bits)
          all_goals exact round_end b2 bS1 bD1 bL1 hB1 hl0 HA.out
    · have hacc := acc_other (ys := pre) (x := x) (d := false) (by simp [hdn])
      have HA := Lib.hid hacc
      clear hacc
      gi_wp2
      gi_region_with_o (refine ⟨trivial, ?_⟩; gi_at_call 146; refine (CallsIn.inRound l (callsIn_wide.2 (isDown_b x.p true hdn _))).mono ?_; rintro e w1 ⟨rfl, hb1⟩; have b1 := bdr hb1; have kD := (b1.cell (p := ⟨w.heap.size, 0, none⟩) sD).trans cD; have kS := (b1.cell (p := ⟨w.heap.size + 1, 0, none⟩) sS).trans cS; have kX := (b1.block Bx sX).trans hX; obtain ⟨k0, k1, k2, k3, k4, k5, k6, k7, k8⟩ := b9c kX; have z1 := b1.size; have tS := Nat.lt_of_lt_of_le sS z1; have tD := Nat.lt_of_lt_of_le sD z1)
      all_goals
        gi_wp2
        gi_region_with_o (refine ⟨trivial, ?_⟩; gi_at_call 189; refine (CallsIn.inRound l (callsIn_wide.2 (need_w x.p false _ x.ok))).mono ?_; rintro e w2 ⟨rfl, hb2⟩; have b2 := b1.trans ((bdr hb2).mono z1); have jD := (b2.cell (p := ⟨w.heap.size, 0, none⟩) sD).trans cD; have jS := (b2.cell (p := ⟨w.heap.size + 1, 0, none⟩) sS).trans cS; have fS2 := (b2.frozen (p := ⟨w.heap.size + 1, 0, none⟩) sS).trans fS; clear kS kD k0 k1 k2 k3 k4 k5 k6 k7 k8)
        all_goals
          gi_wp2
          all_goals (try go_bits)
          all_goals exact round_end b2 bS1 bD1 bL1 hB1 hl0 HA.out
    · have hacc := acc_other (ys := pre) (x := x) (d := true) (by simp [hdn])
      have HA := Lib.hid hacc
      clear hacc
      gi_wp2
      gi_region_with_o (refine ⟨trivial, ?_⟩; gi_at_call 146; refine (CallsIn.inRound l (callsIn_wide.2 (isDown_b x.p false hdn _))).mono ?_; rintro e w1 ⟨rfl, hb1⟩; have b1 := bdr hb1; have kD := (b1.cell (p := ⟨w.heap.size, 0, none⟩) sD).trans cD; have kS := (b1.cell (p := ⟨w.heap.size + 1, 0, none⟩) sS).trans cS; have kX := (b1.block Bx sX).trans hX; obtain ⟨k0, k1, k2, k3, k4, k5, k6, k7, k8⟩ := b9c kX; have z1 := b1.size; have tS := Nat.lt_of_lt_of_le sS z1; have tD := Nat.lt_of_lt_of_le sD z1)
      all_goals
        gi_wp2
        gi_region_with_o (refine ⟨trivial, ?_⟩; gi_at_call 189; refine (CallsIn.inRound l (callsIn_wide.2 (need_w x.p true _ x.ok))).mono ?_; rintro e w2 ⟨rfl, hb2⟩; have b2 := b1.trans ((bdr hb2).mono z1); have jD := (b2.cell (p := ⟨w.heap.size, 0, none⟩) sD).trans cD; have jS := (b2.cell (p := ⟨w.heap.size + 1, 0, none⟩) sS).trans cS; have fS2 := (b2.frozen (p := ⟨w.heap.size + 1, 0, none⟩) sS).trans fS; clear kS kD k0 k1 k2 k3 k4 k5 k6 k7 k8)
        all_goals
          gi_wp2
          all_goals (try go_bits)
          all_goals exact round_end b2 bS1 bD1 bL1 hB1 hl0 HA.out
    · have hacc := acc_same (ys := pre) (x := x) (d := true) hdn
      have HA := Lib.hid hacc
      clear hacc
      gi_wp2
      gi_region_with_o (refine ⟨trivial, ?_⟩; gi_at_call 146; refine (CallsIn.inRound l (callsIn_wide.2 (isDown_b x.p true hdn _))).mono ?_; rintro e w1 ⟨rfl, hb1⟩; have b1 := bdr hb1; have kD := (b1.cell (p := ⟨w.heap.size, 0, none⟩) sD).trans cD; have kS := (b1.cell (p := ⟨w.heap.size + 1, 0, none⟩) sS).trans cS; have kX := (b1.block Bx sX).trans hX; obtain ⟨k0, k1, k2, k3, k4, k5, k6, k7, k8⟩ := b9c kX; have z1 := b1.size; have tS := Nat.lt_of_lt_of_le sS z1; have tD := Nat.lt_of_lt_of_le sD z1)
      all_goals
        gi_wp2
        gi_region_with_o (refine ⟨trivial, ?_⟩; gi_at_call 189; refine (CallsIn.inRound l (callsIn_wide.2 (need_w x.p true _ x.ok))).mono ?_; rintro e w2 ⟨rfl, hb2⟩; have b2 := b1.trans ((bdr hb2).mono z1); have jD := (b2.cell (p := ⟨w.heap.size, 0, none⟩) sD).trans cD; have jS := (b2.cell (p := ⟨w.heap.size + 1, 0, none⟩) sS).trans cS; have fS2 := (b2.frozen (p := ⟨w.heap.size + 1, 0, none⟩) sS).trans fS; clear kS kD k0 k1 k2 k3 k4 k5 k6 k7 k8)
        all_goals
          gi_wp2
          all_goals (try go_bits)
          all_goals exact round_end b2 bS1 bD1 bL1 hB1 hl0 HA.out
  case done =>
    rintro D ys W hD hys ⟨⟨bS1, bD1, bL1⟩, hB1⟩ hK
    have cS := bS1.cell
    rw [acc_req hys] at cS
    gi_wp2
    refine ⟨by simp, .inl ⟨_, _, rfl, run_takeDeferred hK, ?_⟩⟩
    exact ⟨_, results_tmp rfl _ _ _, rfl, hB1.trans (belowK_b (w := w) (Nat.le_refl _) W D _ _ (by omega) hK rfl rfl)⟩
  case stop =>
    rintro D c pre W _ _ h _
    exact h.elim
end Go.Proofs.YtgdkionmeacalabGreat
end
