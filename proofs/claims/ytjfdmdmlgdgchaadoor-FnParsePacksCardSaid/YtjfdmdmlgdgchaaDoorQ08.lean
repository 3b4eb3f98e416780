import Derived.Test.YtjfdmdmlgdgchaaDoorQ07
import Derived.RegionTactic
section
namespace Go.Proofs.YtjfdmdmlgdgchaaDoor
open Go.RowKit
set_option linter.unusedVariables false
set_option linter.unusedSimpArgs false
set_option maxHeartbeats 2000000
attribute [local go_sem] growUpon_value growUpon_skip growUpon_enter
attribute [local go_sem] givesUpon_value givesUpon_skip givesUpon_enter
/-! Texts that are drawn. -/
theorem gx_genD {P : Program} {K : Value → World → Prop} {r : Result Next} (h : ∀ K' : Value → World → Prop, (∀ v w', K v w' → K' v w') → givesUpon P K' r) : givesUpon P K r := h K fun _ _ h => h
theorem stab_listD {S : List Nat} : ∀ {l : List (Value → World → Prop)}, (∀ T ∈ l, ∀ (v : Value) (a b : World), T v a → Chg S a b → T v b) → ∀ (k : Nat) (v : Value) (a b : World), l.getD k (fun _ _ => True) v a → Chg S a b → l.getD k (fun _ _ => True) v b
  | [], _, k, v, a, b, h, hc => trivial
  | T :: r, hl, 0, v, a, b, h, hc => hl T List.mem_cons_self v a b h hc
  | T :: r, hl, k + 1, v, a, b, h, hc => stab_listD (l := r) (fun T hT => hl T (List.mem_cons_of_mem _ hT)) k v a b h hc
def isS1 : Value → Bool | .string s => decide (s.data.size ≤ 1) | _ => false
theorem isS1_ex {v : Value} (h : isS1 v = true) : ∃ x : List UInt8, v = tx x ∧ x.length ≤ 1 := by
  unfold isS1 at h
  split at h
  · rename_i s
    exact ⟨s.data.toList, rfl, by have := of_decide_eq_true h; rw [Array.length_toList]; exact this⟩
  · cases h
/-- a list of short texts -/
def TLS (B : Nat) (S : List Nat) (k : Nat) : Value → World → Prop := fun v w => ∃ g, v = .slice (some ⟨g, 0, none⟩) k k ∧ B ≤ g ∧ g ∉ S ∧ g < w.heap.size ∧ ∀ i, i < k → ∃ x : List UInt8, w.cell? ⟨g, i, none⟩ = some (tx x) ∧ x.length ≤ 1
theorem TLS.keep {B : Nat} {S : List Nat} {k : Nat} {v : Value} {a b : World} (h : TLS B S k v a) (hc : Chg S a b) : TLS B S k v b := by
  obtain ⟨g, e, h1, h2, h3, h4⟩ := h
  exact ⟨g, e, h1, h2, Nat.lt_of_lt_of_le h3 hc.size, fun i hi => by obtain ⟨x, hx, hl⟩ := h4 i hi; exact ⟨x, (hc.cell (p := ⟨g, i, none⟩) h3 h2).trans hx, hl⟩⟩
theorem TLS.lit {B : Nat} {S : List Nat} {k : Nat} {w : World} {cs : Array Value} {T : TypeId} (hB : B ≤ w.heap.size) (hS : ∀ x ∈ S, x < w.heap.size) (hk : cs.size = k) (ha : cs.toList.all isS1 = true) :
    TLS B S k (.slice (some ⟨w.heap.size, 0, none⟩) k k) (w.alloc (.cells cs T)) :=
  ⟨w.heap.size, rfl, hB, fun h => absurd (hS _ h) (by omega), by simp, fun i hi => by
    rw [cell_of_heap (heap_alloc_new w _) i]
    have hi' : i < cs.size := by omega
    rw [Array.getElem?_eq_getElem hi']
    obtain ⟨x, hx, hl⟩ := isS1_ex (List.all_eq_true.1 ha cs[i] (by simp))
    exact ⟨x, by rw [hx], hl⟩⟩
set_option maxRecDepth 100000 in
theorem of_any {B rb : Nat} {A : Option Addr} {l c m k : Nat} {v : Value} (w : World) (h : Rd B rb A l c m w) (hm : m ≤ 1000000) (hT : TLS B [rb] k v w) (hk : 1 ≤ k) (hk2 : k ≤ 100) :
    Calls Tryd.prog 65 #[.pointer (some ⟨rb, 0, none⟩), v] w fun e w' => (∃ x : List UInt8, e = .returned (tx x) ∧ x.length ≤ 1) ∧ Rd B rb A l c (m + 1) w' ∧ Chg [rb] w w' := by
  obtain ⟨g, rfl, hg1, hg2, hg3, hg4⟩ := hT
  go_enter Tryd.func65, Tryd.ntmps65
  go_wp2_with fail
  refine (pick_any _ _ h hm).mono ?_
  rintro e w1 ⟨⟨v, rfl, hv⟩, hr, hc⟩
  obtain ⟨v0, v1⟩ := hv (by omega)
  obtain ⟨j, rfl⟩ := Int.eq_ofNat_of_zero_le v0
  obtain ⟨x, hx, hl⟩ := hg4 j (by omega)
  have hx' := (hc.cell (p := ⟨g, j, none⟩) hg3 hg2).trans hx
  have hjk : j < k := by omega
  have Hr := Lib.hid hr
  have Hc := Lib.hid hc
  clear hr hc hv hx hg4 h
  go_wp2
  go_ret
  exact ⟨⟨_, rfl, hl⟩, Hr.out, Hc.out⟩
theorem of_lit {B rb : Nat} {A : Option Addr} {l c m k : Nat} {cs : Array Value} {T : TypeId} (w : World) (h : Rd B rb A l c m w) (hm : m ≤ 1000000) (hk : cs.size = k) (h1 : 1 ≤ k) (h2 : k ≤ 100) (ha : cs.toList.all isS1 = true) :
    Calls Tryd.prog 65 #[.pointer (some ⟨rb, 0, none⟩), .slice (some ⟨w.heap.size, 0, none⟩) k k] (w.alloc (.cells cs T)) fun e w' => (∃ x : List UInt8, e = .returned (tx x) ∧ x.length ≤ 1) ∧ Rd B rb A l c (m + 1) w' ∧ Chg [rb] w w' :=
  (of_any _ (h.alloc _) hm (TLS.lit (by have := h.lt; have := h.base; omega) (by have := h.lt; simpa using this) hk ha) h1 h2).mono fun e w' ⟨h1, h2, h3⟩ => ⟨h1, h2, ((Chg.refl _ _).alloc _).trans h3⟩
theorem sz_s (s : ByteArray) : s.data.toList.length = s.size := Array.length_toList
theorem cat_s (s : ByteArray) (x : List UInt8) (h : s.size + x.length ≤ 1000000000) (w : World) : (binOp .add 9 (.string s) (tx x)).run Tryd.prog w = .ok (tx (s.data.toList ++ x)) w :=
  run_cat s.data.toList x w (by have := sz_s s; omega)
set_option maxRecDepth 100000 in
theorem mutate_any {B rb : Nat} {A : Option Addr} {l c m : Nat} (s : ByteArray) (w : World) (h : Rd B rb A l c m w) (hm : m ≤ 900000) (hs : s.size ≤ 100000) :
    Calls Tryd.prog 37 #[.pointer (some ⟨rb, 0, none⟩), .string s] w fun e w' => (∃ x : List UInt8, e = .returned (tx x) ∧ x.length ≤ s.size + 1) ∧ Rd B rb A l c (m + 20) w' ∧ Chg [rb] w w' := by
  go_enter Tryd.func37, Tryd.ntmps37
  go_wp2_with fail
  with_reducible refine (pick_any _ _ h (by omega)).mono ?_
  rintro e w0 ⟨⟨z, rfl, hz⟩, hr, hc⟩
  obtain ⟨z0, z1⟩ := hz (by omega)
  obtain ⟨jj, rfl⟩ := Int.eq_ofNat_of_zero_le z0
  have HR0 := Lib.hid hr
  have HC0 := Lib.hid hc
  have hk1 : jj ≤ s.size := by omega
  clear hr hc hz z0 z1 h
  go_wp2_with fail
  with_reducible refine (pick_any _ _ HR0.out (by omega)).mono ?_
  rintro e w1 ⟨⟨q, rfl, hq⟩, hr, hc⟩
  obtain ⟨q0, q1⟩ := hq (by omega)
  have HR := Lib.hid (hr.mono (m' := m + 3) (by omega))
  have HC := Lib.hid (HC0.out.trans hc)
  have hrB := hr.base
  clear hr hc hq HR0 HC0
  have hq5 : q = 0 ∨ q = 1 ∨ q = 2 ∨ q = 3 ∨ q = 4 := by omega
  clear q0 q1
  have hsl := sz_s s
  have hsame : Value.string s = tx s.data.toList := rfl
  have HSM := Lib.hid (And.intro hsl hsame)
  clear hsl hsame
  by_cases hks : jj < s.size
  · have hd : decide ((jj : Int) < (s.size : Int)) = true := decide_eq_true (by omega)
    have wJ : IntKind.i64.wrap ((jj : Int) + 1) = (jj : Int) + 1 := IntWalk.i64_in _ (by omega)
    have hj1 : (0 : Int) ≤ (jj : Int) + 1 := by omega
    have hj2 : (jj : Int) + 1 ≤ (s.size : Int) := by omega
    rcases hq5 with rfl | rfl | rfl | rfl | rfl
    iterate 2
      · go_wp2_with fail
        refine wp_region_rgl (fun k => ((fun v _ => v = .string s) :: (fun v _ => v = .int .i64 (jj : Int)) :: (fun v _ => ∃ x : List UInt8, v = tx x ∧ x.length ≤ jj) :: (fun v _ => v = .pointer (some ⟨rb, 0, none⟩)) :: (TLS B [rb] 7) :: (fun v _ => ∃ x : List UInt8, v = tx x ∧ x.length ≤ 1) :: (fun v _ => ∃ x : List UInt8, v = tx x ∧ x.length ≤ jj + 1) :: (fun v _ => v = .string s) :: (fun v _ => v = .int .i64 (jj : Int)) :: (fun v _ => v = .int .i64 ((jj : Int) + 1)) :: (fun v _ => ∃ x : List UInt8, v = tx x ∧ x.length ≤ s.size - (jj + 1)) :: (fun v _ => ∃ x : List UInt8, v = tx x ∧ x.length ≤ s.size + 1) :: (fun v _ => ∃ x : List UInt8, v = tx x ∧ x.length ≤ s.size + 1) :: []).getD k (fun _ _ => True)) (Chg [rb]) (fun mm w => Rd B rb A l c (m + 3 + mm) w) (by kernel_rfl) (by kernel_rfl) (fun a => Chg.refl _ a) (fun _ _ _ h k => h.trans k) ?hTs ?hI0 ?hops ?hfin
        case hops =>
          refine ⟨opOK_ds [(1, none)] (by kernel_rfl) rfl ?_, ?_⟩
          · intro mm act w' hm' hR hI h1
            have hk : ∀ v, act.eval (.const v) = v := fun _ => rfl
            have hf : ∀ f, act.eval (.func f) = .func (.func f) #[] #[] := fun _ => rfl
            generalize act.eval = ρ at *
            have hm : mm < 13 := hm'
            replace h1 : ρ (.tmp 1) = .string s := h1
            refine gx_genD (fun K hK => ?_)
            go_simp
            exact hK _ _ ⟨rfl, Chg.refl _ _, hI.mono (by omega)⟩
          refine ⟨opOK_ds [(5, none)] (by kernel_rfl) rfl ?_, ?_⟩
          · intro mm act w' hm' hR hI h1
            have hk : ∀ v, act.eval (.const v) = v := fun _ => rfl
            have hf : ∀ f, act.eval (.func f) = .func (.func f) #[] #[] := fun _ => rfl
            generalize act.eval = ρ at *
            have hm : mm < 13 := hm'
            replace h1 : ρ (.tmp 5) = .int .i64 (jj : Int) := h1
            refine gx_genD (fun K hK => ?_)
            go_simp
            exact hK _ _ ⟨rfl, Chg.refl _ _, hI.mono (by omega)⟩
          refine ⟨opOK_ds [(20, some 0), (21, some 1)] (by kernel_rfl) rfl ?_, ?_⟩
          · intro mm act w' hm' hR hI h1 h2
            have hk : ∀ v, act.eval (.const v) = v := fun _ => rfl
            have hf : ∀ f, act.eval (.func f) = .func (.func f) #[] #[] := fun _ => rfl
            generalize act.eval = ρ at *
            have hm : mm < 13 := hm'
            replace h1 : ρ (.tmp 20) = .string s := h1
            replace h2 : ρ (.tmp 21) = .int .i64 (jj : Int) := h2
            refine gx_genD (fun K hK => ?_)
            go_simp
            exact hK _ _ ⟨⟨_, ext_tx s 0 jj, by simp; omega⟩, Chg.refl _ _, hI.mono (by omega)⟩
          refine ⟨opOK_ds [(0, none)] (by kernel_rfl) rfl ?_, ?_⟩
          · intro mm act w' hm' hR hI h1
            have hk : ∀ v, act.eval (.const v) = v := fun _ => rfl
            have hf : ∀ f, act.eval (.func f) = .func (.func f) #[] #[] := fun _ => rfl
            generalize act.eval = ρ at *
            have hm : mm < 13 := hm'
            replace h1 : ρ (.tmp 0) = .pointer (some ⟨rb, 0, none⟩) := h1
            refine gx_genD (fun K hK => ?_)
            go_simp
            exact hK _ _ ⟨rfl, Chg.refl _ _, hI.mono (by omega)⟩
          refine ⟨opOK_ds [] (by kernel_rfl) rfl ?_, ?_⟩
          · intro mm act w' hm' hR hI 
            have hk : ∀ v, act.eval (.const v) = v := fun _ => rfl
            have hf : ∀ f, act.eval (.func f) = .func (.func f) #[] #[] := fun _ => rfl
            generalize act.eval = ρ at *
            have hm : mm < 13 := hm'
            refine gx_genD (fun K hK => ?_)
            have hrl := hI.lt
            go_simp
            exact hK _ _ ⟨TLS.lit (by omega) (by simp; omega) (by simp) (by simp [isS1]), (Chg.refl _ _).alloc _, (hI.alloc _).mono (by omega)⟩
          refine ⟨opOK_ds [(23, some 3), (24, some 4)] (by kernel_rfl) rfl ?_, ?_⟩
          · intro mm act w' hm' hR hI h1 h2
            have hk : ∀ v, act.eval (.const v) = v := fun _ => rfl
            have hf : ∀ f, act.eval (.func f) = .func (.func f) #[] #[] := fun _ => rfl
            generalize act.eval = ρ at *
            have hm : mm < 13 := hm'
            replace h1 : ρ (.tmp 23) = .pointer (some ⟨rb, 0, none⟩) := h1
            replace h2 : (TLS B [rb] 7) (ρ (.tmp 24)) w' := h2
            refine gx_genD (fun K hK => ?_)
            go_simp
            with_reducible refine (of_any _ hI (by omega) h2 (by omega) (by omega)).mono ?_
            rintro e w1 ⟨⟨x, rfl, hx⟩, hr, hc⟩
            exact ⟨_, rfl, hK _ _ ⟨⟨x, rfl, hx⟩, hc, hr.mono (by omega)⟩⟩
          refine ⟨opOK_ds [(22, some 2), (25, some 5)] (by kernel_rfl) rfl ?_, ?_⟩
          · intro mm act w' hm' hR hI h1 h2
            have hk : ∀ v, act.eval (.const v) = v := fun _ => rfl
            have hf : ∀ f, act.eval (.func f) = .func (.func f) #[] #[] := fun _ => rfl
            generalize act.eval = ρ at *
            have hm : mm < 13 := hm'
            replace h1 : (fun v _ => ∃ x : List UInt8, v = tx x ∧ x.length ≤ jj) (ρ (.tmp 22)) w' := h1
            replace h2 : (fun v _ => ∃ x : List UInt8, v = tx x ∧ x.length ≤ 1) (ρ (.tmp 25)) w' := h2
            refine gx_genD (fun K hK => ?_)
            obtain ⟨x, h1, hx⟩ := h1
            obtain ⟨y, h2, hy⟩ := h2
            have hc := run_cat x y w' (by omega)
            go_simp
            exact hK _ _ ⟨⟨x ++ y, rfl, by rw [List.length_append]; omega⟩, Chg.refl _ _, hI.mono (by omega)⟩
          refine ⟨opOK_ds [(1, none)] (by kernel_rfl) rfl ?_, ?_⟩
          · intro mm act w' hm' hR hI h1
            have hk : ∀ v, act.eval (.const v) = v := fun _ => rfl
            have hf : ∀ f, act.eval (.func f) = .func (.func f) #[] #[] := fun _ => rfl
            generalize act.eval = ρ at *
            have hm : mm < 13 := hm'
            replace h1 : ρ (.tmp 1) = .string s := h1
            refine gx_genD (fun K hK => ?_)
            go_simp
            exact hK _ _ ⟨rfl, Chg.refl _ _, hI.mono (by omega)⟩
          refine ⟨opOK_ds [(5, none)] (by kernel_rfl) rfl ?_, ?_⟩
          · intro mm act w' hm' hR hI h1
            have hk : ∀ v, act.eval (.const v) = v := fun _ => rfl
            have hf : ∀ f, act.eval (.func f) = .func (.func f) #[] #[] := fun _ => rfl
            generalize act.eval = ρ at *
            have hm : mm < 13 := hm'
            replace h1 : ρ (.tmp 5) = .int .i64 (jj : Int) := h1
            refine gx_genD (fun K hK => ?_)
            go_simp
            exact hK _ _ ⟨rfl, Chg.refl _ _, hI.mono (by omega)⟩
          refine ⟨opOK_ds [(28, some 8)] (by kernel_rfl) rfl ?_, ?_⟩
          · intro mm act w' hm' hR hI h1
            have hk : ∀ v, act.eval (.const v) = v := fun _ => rfl
            have hf : ∀ f, act.eval (.func f) = .func (.func f) #[] #[] := fun _ => rfl
            generalize act.eval = ρ at *
            have hm : mm < 13 := hm'
            replace h1 : ρ (.tmp 28) = .int .i64 (jj : Int) := h1
            refine gx_genD (fun K hK => ?_)
            go_simp
            exact hK _ _ ⟨rfl, Chg.refl _ _, hI.mono (by omega)⟩
          refine ⟨opOK_ds [(27, some 7), (29, some 9)] (by kernel_rfl) rfl ?_, ?_⟩
          · intro mm act w' hm' hR hI h1 h2
            have hk : ∀ v, act.eval (.const v) = v := fun _ => rfl
            have hf : ∀ f, act.eval (.func f) = .func (.func f) #[] #[] := fun _ => rfl
            generalize act.eval = ρ at *
            have hm : mm < 13 := hm'
            replace h1 : ρ (.tmp 27) = .string s := h1
            replace h2 : ρ (.tmp 29) = .int .i64 ((jj : Int) + 1) := h2
            refine gx_genD (fun K hK => ?_)
            go_simp
            exact hK _ _ ⟨⟨_, ext_tx s (jj + 1) s.size, by simp⟩, Chg.refl _ _, hI.mono (by omega)⟩
          refine ⟨opOK_ds [(26, some 6), (30, some 10)] (by kernel_rfl) rfl ?_, ?_⟩
          · intro mm act w' hm' hR hI h1 h2
            have hk : ∀ v, act.eval (.const v) = v := fun _ => rfl
            have hf : ∀ f, act.eval (.func f) = .func (.func f) #[] #[] := fun _ => rfl
            generalize act.eval = ρ at *
            have hm : mm < 13 := hm'
            replace h1 : (fun v _ => ∃ x : List UInt8, v = tx x ∧ x.length ≤ jj + 1) (ρ (.tmp 26)) w' := h1
            replace h2 : (fun v _ => ∃ x : List UInt8, v = tx x ∧ x.length ≤ s.size - (jj + 1)) (ρ (.tmp 30)) w' := h2
            refine gx_genD (fun K hK => ?_)
            obtain ⟨x, h1, hx⟩ := h1
            obtain ⟨y, h2, hy⟩ := h2
            have hc := run_cat x y w' (by omega)
            go_simp
            exact hK _ _ ⟨⟨x ++ y, rfl, by rw [List.length_append]; omega⟩, Chg.refl _ _, hI.mono (by omega)⟩
          refine ⟨opOK_ds [(31, some 11)] (by kernel_rfl) rfl ?_, ?_⟩
          · intro mm act w' hm' hR hI h1
            have hk : ∀ v, act.eval (.const v) = v := fun _ => rfl
            have hf : ∀ f, act.eval (.func f) = .func (.func f) #[] #[] := fun _ => rfl
            generalize act.eval = ρ at *
            have hm : mm < 13 := hm'
            replace h1 : (fun v _ => ∃ x : List UInt8, v = tx x ∧ x.length ≤ s.size + 1) (ρ (.tmp 31)) w' := h1
            refine gx_genD (fun K hK => ?_)
            obtain ⟨x, h1, hx⟩ := h1
            go_simp
            exact hK _ _ ⟨⟨x, rfl, hx⟩, Chg.refl _ _, hI.mono (by omega)⟩
          exact trivial
        case hTs =>
          intro k v x y hv hc
          exact stab_listD (by
            intro T hT
            simp only [List.mem_cons, List.not_mem_nil, or_false] at hT
            rcases hT with rfl | rfl | rfl | rfl | rfl | rfl | rfl | rfl | rfl | rfl | rfl | rfl | rfl <;> first | exact fun v a b h _ => h | exact fun v a b h hc => TLS.keep h hc)
            k v x y hv hc
        case hI0 => exact (HR.out.drew).mono (by omega)
        case hfin =>
          intro w6 hR6 hI6
          intro v20 t20 v21 t21 v22 t22 v23 t23 v24 t24 v25 t25 v26 t26 v27 t27 v28 t28 v29 t29 v30 t30 v31 t31 v4 t4
          obtain ⟨x4, rfl, hx4⟩ : ∃ x : List UInt8, v4 = tx x ∧ x.length ≤ s.size + 1 := t4
          simp only [finP, Act.put, List.setIfInBounds_toArray, List.set_cons_succ, List.set_cons_zero]
          have HR6 := Lib.hid (show Rd B rb A l c (m + 3 + 13) w6 from hI6)
          have HC6 := Lib.hid (HC.out.trans ((Chg.drew (Chg.refl _ w1)).trans hR6))
          clear hR6 hI6 HR HC t20 t21 t22 t23 t24 t25 t26 t27 t28 t29 t30 t31
          go_wp2
          go_ret
          exact ⟨⟨x4, rfl, hx4⟩, HR6.out.mono (by omega), HC6.out⟩
    · go_wp2
      go_ret
      exact ⟨⟨_, congrArg Ending.returned (ext_tx s 0 jj), by simp; omega⟩, HR.out.mono (by omega), HC.out⟩
    · go_wp2_with fail
      with_reducible refine (of_lit _ HR.out (by omega) (by simp) (by omega) (by omega) (by simp [isS1])).mono ?_
      rintro e w2 ⟨⟨x, rfl, hx⟩, hr, hc⟩
      have HR2 := Lib.hid hr
      have HC2 := Lib.hid (HC.out.trans hc)
      have hct := cat_s s x (by omega)
      clear hr hc
      go_wp2
      go_ret
      exact ⟨⟨_, rfl, by rw [List.length_append, HSM.out.1]; omega⟩, HR2.out.mono (by omega), HC2.out⟩
    · go_wp2
      go_ret
      exact ⟨⟨_, congrArg Ending.returned HSM.out.2, by rw [HSM.out.1]; omega⟩, HR.out.mono (by omega), HC.out⟩
  · have hd : decide ((jj : Int) < (s.size : Int)) = false := decide_eq_false (by omega)
    rcases hq5 with rfl | rfl | rfl | rfl | rfl
    iterate 2
      · go_wp2
        go_ret
        exact ⟨⟨_, congrArg Ending.returned HSM.out.2, by rw [HSM.out.1]; omega⟩, HR.out.mono (by omega), HC.out⟩
    · go_wp2
      go_ret
      exact ⟨⟨_, congrArg Ending.returned (ext_tx s 0 jj), by simp; omega⟩, HR.out.mono (by omega), HC.out⟩
    · go_wp2_with fail
      with_reducible refine (of_lit _ HR.out (by omega) (by simp) (by omega) (by omega) (by simp [isS1])).mono ?_
      rintro e w2 ⟨⟨x, rfl, hx⟩, hr, hc⟩
      have HR2 := Lib.hid hr
      have HC2 := Lib.hid (HC.out.trans hc)
      have hct := cat_s s x (by omega)
      clear hr hc
      go_wp2
      go_ret
      exact ⟨⟨_, rfl, by rw [List.length_append, HSM.out.1]; omega⟩, HR2.out.mono (by omega), HC2.out⟩
    · go_wp2
      go_ret
      exact ⟨⟨_, congrArg Ending.returned HSM.out.2, by rw [HSM.out.1]; omega⟩, HR.out.mono (by omega), HC.out⟩
theorem mutate_x {B rb : Nat} {A : Option Addr} {l c m : Nat} (y : List UInt8) (w : World) (h : Rd B rb A l c m w) (hm : m ≤ 900000) (hs : y.length ≤ 100000) :
    Calls Tryd.prog 37 #[.pointer (some ⟨rb, 0, none⟩), tx y] w fun e w' => (∃ x : List UInt8, e = .returned (tx x) ∧ x.length ≤ y.length + 1) ∧ Rd B rb A l c (m + 20) w' ∧ Chg [rb] w w' := by
  have e : (⟨y.toArray⟩ : ByteArray).size = y.length := by show y.toArray.size = _; simp
  have := mutate_any ⟨y.toArray⟩ w h hm (by rw [e]; exact hs)
  rw [e] at this
  exact this
set_option maxRecDepth 100000 in
theorem DrawParsePack_any (A : Option Addr) (n c : Nat) (w : World) (h : Bts w A n) (hn : n ≤ c) (hc : c ≤ maxLen) :
    Calls Tryd.prog 19 #[.slice A n c] w fun e w' => (∃ x : List UInt8, e = .returned (tx x) ∧ x.length ≤ 1000) ∧ Below w.heap.size w w' := by
  go_enter Tryd.func19, Tryd.ntmps19
  go_wp2_with fail
  with_reducible refine (newReader_any A n c _ h hn hc).mono ?_
  rintro e w1 ⟨n', rfl, hr1, hc1⟩
  have HC1 := Lib.hid hc1
  clear hc1
  go_wp2_with fail
  with_reducible refine (goodPackB _ hr1 (by omega)).mono ?_
  rintro e w2 ⟨⟨w0, h0, s, fx, fy, ex, an, px, py, hv, rfl⟩, hr2, hc2⟩
  have HC2 := Lib.hid ((HC1.out.mono (S' := [w.heap.size]) (by simp)).trans hc2)
  have HR2 := Lib.hid hr2
  have hpl := pkT_len (fx := fx) (fy := fy) (ex := ex) hv
  clear hr1 hr2 hc2 HC1
  go_wp2_with fail
  with_reducible refine (spackText_v w0 h0 s fx fy ex an px py _ hv).mono ?_
  rintro e w3 ⟨rfl, hb⟩
  have HR3 := Lib.hid (HR2.out.below hb)
  have HC3 := Lib.hid (HC2.out.of_below hb)
  clear hb HR2 HC2 hv
  generalize pkT w0 h0 s fx fy ex an px py = y at *
  go_wp2_with fail
  with_reducible refine (pick_any _ _ HR3.out (by omega)).mono ?_
  rintro e w4 ⟨⟨z, rfl, -⟩, hr, hc4⟩
  have HR4 := Lib.hid hr
  have HC4 := Lib.hid (HC3.out.trans hc4)
  clear hr hc4 HR3 HC3
  by_cases hz : z = 0
  · subst hz
    go_wp2_with fail
    with_reducible refine (mutate_x y _ HR4.out (by omega) (by omega)).mono ?_
    rintro e w5 ⟨⟨x, rfl, hx⟩, hr, hc5⟩
    have HB := Lib.hid ((HC4.out.trans hc5).toBelow (Nat.le_refl _))
    clear hr hc5
    go_wp2
    go_ret
    exact ⟨⟨_, rfl, by omega⟩, HB.out⟩
  · have hzb : (z == 0) = false := by simpa using hz
    have HB := Lib.hid (HC4.out.toBelow (Nat.le_refl _))
    go_wp2
    go_ret
    exact ⟨⟨_, rfl, by omega⟩, HB.out⟩
set_option maxRecDepth 100000 in
theorem packLines_any {B rb : Nat} {A : Option Addr} {l c m : Nat} (w : World) (h : Rd B rb A l c m w) (hm : m ≤ 700000) :
    Calls Tryd.prog 42 #[.pointer (some ⟨rb, 0, none⟩)] w fun e w' => (∃ x : List UInt8, e = .returned (tx x) ∧ x.length ≤ 6000) ∧ Rd B rb A l c (m + 200) w' ∧ Chg [rb] w w' := by
  go_enter Tryd.func42, Tryd.ntmps42
  go_wp2_with fail
  with_reducible refine (one_litR 0 8 _ h (by omega) (by simp) (by omega) (by omega) (by simp [isR])).mono ?_
  rintro e w1 ⟨⟨z, rfl, hz⟩, hr1, hc1⟩
  obtain ⟨z0, z1⟩ := hz.out
  obtain ⟨n, rfl⟩ := Int.eq_ofNat_of_zero_le z0
  have HR1 := Lib.hid hr1
  have HC1 := Lib.hid hc1
  have hn8 : n ≤ 8 := by omega
  clear hr1 hc1 z0 z1 hz h
  go_wp2_with fail
  go_loopw [3, 4] (fun sv i wr => ∃ (k : Nat) (x : List UInt8), i = .int .i64 k ∧ sv = tx x ∧ k ≤ 8 ∧ x.length + 701 * k ≤ 5608 ∧ Rd B rb A l c (m + 1 + 20 * (8 - k)) wr ∧ Chg [rb] w wr) (fun _ i _ => (intOf i).toNat)
  case atStart => exact ⟨n, [], rfl, rfl, hn8, by simp; omega, HR1.out.mono (by omega), HC1.out⟩
  case round =>
    obtain ⟨k, x, rfl, rfl, hk, hx, hr, hc⟩ := hrel
    clear HR1 HC1
    rcases k with _ | k
    · have hd : decide (((0 : Nat) : Int) > 0) = false := by simp
      have HR := Lib.hid hr
      have HC := Lib.hid hc
      clear hr hc
      go_wp2
      go_ret
      exact ⟨⟨_, rfl, by omega⟩, HR.out.mono (by omega), HC.out⟩
    · have hd : decide (((k + 1 : Nat) : Int) > 0) = true := by simp
      have HC := Lib.hid hc
      clear hc
      go_wp2_with fail
      with_reducible refine (goodPackB _ hr (by omega)).mono ?_
      rintro e w2 ⟨⟨w0, h0, s, fx, fy, ex, an, px, py, hv, rfl⟩, hr2, hc2⟩
      have HC2 := Lib.hid (HC.out.trans hc2)
      have HR2 := Lib.hid hr2
      have hpl := pkT_len (fx := fx) (fy := fy) (ex := ex) hv
      clear hr hr2 hc2 HC
      go_wp2_with fail
      with_reducible refine (spackText_v w0 h0 s fx fy ex an px py _ hv).mono ?_
      rintro e w3 ⟨rfl, hb⟩
      have HR3 := Lib.hid (HR2.out.below hb)
      have HC3 := Lib.hid (HC2.out.of_below hb)
      clear hb HR2 HC2 hv
      generalize pkT w0 h0 s fx fy ex an px py = y at *
      have hc1 := fun w => run_cat x y w (by omega)
      have hc2 : ∀ w, (binOp .add 9 (tx (x ++ y)) (.string ⟨#[10]⟩)).run Tryd.prog w = .ok (tx (x ++ y ++ [10])) w := fun w => run_cat (x ++ y) [10] w (by simp; omega)
      go_wp2
      go_roundw
      case rel => exact ⟨k, x ++ (y ++ [10]), by go_num, rfl, by omega, by simp; omega, HR3.out.mono (by omega), HC3.out⟩
      case measure => simp [intOf]
set_option maxRecDepth 100000 in
theorem DrawParsePacks_any (A : Option Addr) (n c : Nat) (w : World) (h : Bts w A n) (hn : n ≤ c) (hc : c ≤ maxLen) :
    Calls Tryd.prog 22 #[.slice A n c] w fun e w' => (∃ x : List UInt8, e = .returned (tx x) ∧ x.length ≤ 7000) ∧ Below w.heap.size w w' := by
  go_enter Tryd.func22, Tryd.ntmps22
  go_wp2_with fail
  with_reducible refine (newReader_any A n c _ h hn hc).mono ?_
  rintro e w1 ⟨n', rfl, hr1, hc1⟩
  have HC1 := Lib.hid hc1
  clear hc1
  go_wp2_with fail
  with_reducible refine (packLines_any _ hr1 (by omega)).mono ?_
  rintro e w2 ⟨⟨y, rfl, hy⟩, hr2, hc2⟩
  have HC3 := Lib.hid ((HC1.out.mono (S' := [w.heap.size]) (by simp)).trans hc2)
  have HR3 := Lib.hid hr2
  clear hr1 hr2 hc2 HC1
  go_wp2_with fail
  with_reducible refine (pick_any _ _ HR3.out (by omega)).mono ?_
  rintro e w4 ⟨⟨z, rfl, -⟩, hr, hc4⟩
  have HR4 := Lib.hid hr
  have HC4 := Lib.hid (HC3.out.trans hc4)
  clear hr hc4 HR3 HC3
  by_cases hz : z = 0
  · subst hz
    go_wp2_with fail
    with_reducible refine (mutate_x y _ HR4.out (by omega) (by omega)).mono ?_
    rintro e w5 ⟨⟨x, rfl, hx⟩, hr, hc5⟩
    have HB := Lib.hid ((HC4.out.trans hc5).toBelow (Nat.le_refl _))
    clear hr hc5
    go_wp2
    go_ret
    exact ⟨⟨_, rfl, by omega⟩, HB.out⟩
  · have hzb : (z == 0) = false := by simpa using hz
    have HB := Lib.hid (HC4.out.toBelow (Nat.le_refl _))
    go_wp2
    go_ret
    exact ⟨⟨_, rfl, by omega⟩, HB.out⟩
end Go.Proofs.YtjfdmdmlgdgchaaDoor
end
section
namespace Go.Proofs.YtjfdmdmlgdgchaaDoor
open Go.RowKit
set_option linter.unusedVariables false
set_option linter.unusedSimpArgs false
set_option maxHeartbeats 2000000
attribute [local go_sem] growUpon_value growUpon_skip growUpon_enter
/-! spec.indexOf; the model's reading of words. -/
def IXP (x : List UInt8) (r : Int) : Prop := ∀ s : Int, 0 ≤ s → s ≤ 3 → x = sideB s → r = s
theorem side_inj : ∀ i s : Fin 4, sideWds[i.val]? = some (sideB (s.val : Int)) → i = s := by decide
theorem IXP.hit {k : Nat} (hk : k < 4) {x : List UInt8} (h : sideWds[k]? = some x) : IXP x k := fun s h0 h3 e => by
  obtain ⟨n, rfl⟩ := Int.eq_ofNat_of_zero_le h0
  have := side_inj ⟨k, hk⟩ ⟨n, by omega⟩ (by subst e; exact h)
  have : k = n := congrArg Fin.val this
  omega
theorem IXP.miss {x : List UInt8} (h : ∀ j, j < 4 → sideWds[j]? ≠ some x) (r : Int) : IXP x r := fun s h0 h3 e => by
  subst e
  have : s = 0 ∨ s = 1 ∨ s = 2 ∨ s = 3 := by omega
  rcases this with rfl | rfl | rfl | rfl
  · exact absurd rfl (h 0 (by omega))
  · exact absurd rfl (h 1 (by omega))
  · exact absurd rfl (h 2 (by omega))
  · exact absurd rfl (h 3 (by omega))
set_option maxRecDepth 100000 in
theorem indexOf_v (V : Value) (x : List UInt8) (w : World) (hV : SWv w V) : Calls Tryd.prog 44 #[V, tx x] w fun e w' => (∃ r, e = .returned (.int .i64 r) ∧ IXP x r) ∧ Below w.heap.size w w' := by
  obtain ⟨g, rfl, hS⟩ := hV
  have HS := Lib.hid hS
  clear hS
  go_enter Tryd.func44, Tryd.ntmps44
  go_wp2_with fail
  go_loop [5] (fun iv => ∃ (k : Nat), iv = .int .i64 k ∧ k ≤ 4 ∧ ∀ j, j < k → sideWds[j]? ≠ some x) (fun iv => 4 - (intOf iv).toNat)
  case atStart => exact ⟨0, rfl, by omega, fun j hj => by omega⟩
  case round =>
    obtain ⟨k, rfl, hk, hno⟩ := hrel
    have HN := Lib.hid hno
    clear hno
    by_cases hp : k < 4
    · have hd : decide ((k : Int) < 4) = true := decide_eq_true (by omega)
      have wP : IntKind.i64.wrap ((k : Int) + 1) = ((k + 1 : Nat) : Int) := (IntWalk.i64_in _ (by omega)).trans (by omega)
      have hl4 : sideWds.length = 4 := rfl
      have hy0 : sideWds[k]? = some (sideWds[k]'(by omega)) := List.getElem?_eq_getElem (by omega)
      obtain ⟨y, hy⟩ : ∃ y, sideWds[k]'(by omega) = y := ⟨_, rfl⟩
      rw [hy] at hy0
      have HY := Lib.hid hy0
      have c0 := HS.out.at k hy0
      have e1 := fun s t w => eqg_tx .eql s t y x w
      clear hy0 hy
      by_cases he : y = x
      · subst he
        have e2 := eq_same y
        go_wp2
        go_ret
        exact ⟨⟨_, rfl, IXP.hit hp HY.out⟩, Below.refl _ _⟩
      · have e2 := eql_not y x he
        have HN2 : Hid (∀ j, j < k + 1 → sideWds[j]? ≠ some x) := Lib.hid (fun j hj => by
          by_cases hjk : j = k
          · subst hjk; rw [HY.out]; exact fun e => he (Option.some.inj e)
          · exact HN.out j (by omega))
        clear he
        go_wp2
        go_roundw
        · exact ⟨k + 1, rfl, by omega, HN2.out⟩
        · simp [intOf]; omega
    · have hd : decide ((k : Int) < 4) = false := decide_eq_false (by omega)
      go_wp2
      go_ret
      exact ⟨⟨_, rfl, IXP.miss (fun j hj => HN.out j (by omega)) _⟩, Below.refl _ _⟩
/-- the words behind the first three, read into an item -/
def spL : List (List UInt8) → PKV → Option PKV
  | [], p => some p
  | x :: r, p =>
    if x = FX then spL r ⟨p.w0, p.h0, p.s, true, p.fy, p.ex, p.an, p.px, p.py⟩
    else if x = FY then spL r ⟨p.w0, p.h0, p.s, p.fx, true, p.ex, p.an, p.px, p.py⟩
    else if x = EX then spL r ⟨p.w0, p.h0, p.s, p.fx, p.fy, true, p.an, p.px, p.py⟩
    else if x = AN then spL r.tail ⟨p.w0, p.h0, p.s, p.fx, p.fy, p.ex, numV 999 (r.headD []), p.px, p.py⟩
    else if x = PXW then spL r.tail ⟨p.w0, p.h0, p.s, p.fx, p.fy, p.ex, p.an, numV 999 (r.headD []), p.py⟩
    else if x = PYW then spL r.tail ⟨p.w0, p.h0, p.s, p.fx, p.fy, p.ex, p.an, p.px, numV 999 (r.headD [])⟩
    else none
termination_by L => L.length
decreasing_by all_goals (simp [List.length_tail]; try omega)
theorem spL_nil (p : PKV) : spL [] p = some p := by rw [spL]
theorem spL_fx (r : List (List UInt8)) (p : PKV) : spL (FX :: r) p = spL r ⟨p.w0, p.h0, p.s, true, p.fy, p.ex, p.an, p.px, p.py⟩ := by rw [spL, if_pos rfl]
theorem spL_fy (r : List (List UInt8)) (p : PKV) : spL (FY :: r) p = spL r ⟨p.w0, p.h0, p.s, p.fx, true, p.ex, p.an, p.px, p.py⟩ := by rw [spL, if_neg (by decide), if_pos rfl]
theorem spL_ex (r : List (List UInt8)) (p : PKV) : spL (EX :: r) p = spL r ⟨p.w0, p.h0, p.s, p.fx, p.fy, true, p.an, p.px, p.py⟩ := by rw [spL, if_neg (by decide), if_neg (by decide), if_pos rfl]
theorem spL_an (r : List (List UInt8)) (p : PKV) : spL (AN :: r) p = spL r.tail ⟨p.w0, p.h0, p.s, p.fx, p.fy, p.ex, numV 999 (r.headD []), p.px, p.py⟩ := by rw [spL, if_neg (by decide), if_neg (by decide), if_neg (by decide), if_pos rfl]
theorem spL_px (r : List (List UInt8)) (p : PKV) : spL (PXW :: r) p = spL r.tail ⟨p.w0, p.h0, p.s, p.fx, p.fy, p.ex, p.an, numV 999 (r.headD []), p.py⟩ := by rw [spL, if_neg (by decide), if_neg (by decide), if_neg (by decide), if_neg (by decide), if_pos rfl]
theorem spL_py (r : List (List UInt8)) (p : PKV) : spL (PYW :: r) p = spL r.tail ⟨p.w0, p.h0, p.s, p.fx, p.fy, p.ex, p.an, p.px, numV 999 (r.headD [])⟩ := by rw [spL, if_neg (by decide), if_neg (by decide), if_neg (by decide), if_neg (by decide), if_neg (by decide), if_pos rfl]
theorem spL_no {x : List UInt8} (r : List (List UInt8)) (p : PKV) (h1 : x ≠ FX) (h2 : x ≠ FY) (h3 : x ≠ EX) (h4 : x ≠ AN) (h5 : x ≠ PXW) (h6 : x ≠ PYW) : spL (x :: r) p = none := by rw [spL, if_neg h1, if_neg h2, if_neg h3, if_neg h4, if_neg h5, if_neg h6]
theorem spL_wds {w0 h0 s : Int} {fx fy ex : Bool} {an px py : Int} (hv : vpB w0 h0 s an px py = true) : spL ((wds w0 h0 s fx fy ex an px py).drop 3) ⟨w0, h0, s, false, false, false, 4, 0, 0⟩ = some ⟨w0, h0, s, fx, fy, ex, an, px, py⟩ := by
  obtain ⟨⟨a1, a2⟩, ⟨a3, a4⟩, ⟨a5, a6⟩, ⟨a7, a8⟩, ⟨a9, a10⟩, ⟨a11, a12⟩⟩ := vpB_iff.1 hv
  rw [wds_eq]
  simp only [List.drop_succ_cons, List.drop_zero]
  have h1 : ∀ R, spL (op fx [FX] ++ R) ⟨w0, h0, s, false, false, false, 4, 0, 0⟩ = spL R ⟨w0, h0, s, fx, false, false, 4, 0, 0⟩ := fun R => by
    cases fx
    · rfl
    · exact spL_fx R _
  have h2 : ∀ R, spL (op fy [FY] ++ R) ⟨w0, h0, s, fx, false, false, 4, 0, 0⟩ = spL R ⟨w0, h0, s, fx, fy, false, 4, 0, 0⟩ := fun R => by
    cases fy
    · rfl
    · exact spL_fy R _
  have h3 : ∀ R, spL (op ex [EX] ++ R) ⟨w0, h0, s, fx, fy, false, 4, 0, 0⟩ = spL R ⟨w0, h0, s, fx, fy, ex, 4, 0, 0⟩ := fun R => by
    cases ex
    · rfl
    · exact spL_ex R _
  have h4 : ∀ R, spL (op (an != 4) [AN, Lib.itoa an] ++ R) ⟨w0, h0, s, fx, fy, ex, 4, 0, 0⟩ = spL R ⟨w0, h0, s, fx, fy, ex, an, 0, 0⟩ := fun R => by
    by_cases e : an = 4
    · subst e; rfl
    · have : (an != 4) = true := by simpa using e
      rw [this]
      refine (spL_an (Lib.itoa an :: R) _).trans ?_
      rw [List.headD_cons, numV_itoa' (by omega) (by omega)]; rfl
  have h5 : ∀ R, spL (op (px != 0) [PXW, Lib.itoa px] ++ R) ⟨w0, h0, s, fx, fy, ex, an, 0, 0⟩ = spL R ⟨w0, h0, s, fx, fy, ex, an, px, 0⟩ := fun R => by
    by_cases e : px = 0
    · subst e; rfl
    · have : (px != 0) = true := by simpa using e
      rw [this]
      refine (spL_px (Lib.itoa px :: R) _).trans ?_
      rw [List.headD_cons, numV_itoa' (by omega) (by omega)]; rfl
  have h6 : ∀ R, spL (op (py != 0) [PYW, Lib.itoa py] ++ R) ⟨w0, h0, s, fx, fy, ex, an, px, 0⟩ = spL R ⟨w0, h0, s, fx, fy, ex, an, px, py⟩ := fun R => by
    by_cases e : py = 0
    · subst e; rfl
    · have : (py != 0) = true := by simpa using e
      rw [this]
      refine (spL_py (Lib.itoa py :: R) _).trans ?_
      rw [List.headD_cons, numV_itoa' (by omega) (by omega)]; rfl
  rw [h1, h2, h3, h4, h5, h6, spL_nil]
theorem prs_words {l : List UInt8} {p : PKV} (h : prs l = some p) : p.ok = true ∧ splitL 32 l = p.words ∧ p.text = l := by
  obtain ⟨h1, h2⟩ := prs_iff.1 h
  exact ⟨h1, by rw [← h2]; exact prs_split h1, h2⟩
theorem words_len (p : PKV) : 3 ≤ p.words.length := by
  have : p.words = _ := wds_eq _ _ _ _ _ _ _ _ _
  rw [this]; simp
/-- what the model reads is the item, if there is one -/
theorem prs_sp {l : List UInt8} {p : PKV} {r : Int} {x0 x1 x2 : List UInt8} {L : List (List UInt8)} (h : prs l = some p) (hL : splitL 32 l = x0 :: x1 :: x2 :: L) (hr : IXP x0 r) : spL L ⟨numV 999 x1, numV 999 x2, r, false, false, false, 4, 0, 0⟩ = some p := by
  obtain ⟨hk, hw, ht⟩ := prs_words h
  obtain ⟨⟨a1, a2⟩, ⟨a3, a4⟩, ⟨a5, a6⟩, _⟩ := vpB_iff.1 (show vpB p.w0 p.h0 p.s p.an p.px p.py = true from hk)
  have e := spL_wds (fx := p.fx) (fy := p.fy) (ex := p.ex) (show vpB p.w0 p.h0 p.s p.an p.px p.py = true from hk)
  have e2 : x0 :: x1 :: x2 :: L = wds p.w0 p.h0 p.s p.fx p.fy p.ex p.an p.px p.py := hL.symm.trans hw
  clear hw hL
  rw [← e2] at e
  have e9 := e2.trans (wds_eq _ _ _ _ _ _ _ _ _)
  have g0 := (List.cons.inj e9).1
  have g1 := (List.cons.inj (List.cons.inj e9).2).1
  have g2 := (List.cons.inj (List.cons.inj (List.cons.inj e9).2).2).1
  have k0 : r = p.s := hr p.s (by omega) (by omega) g0
  have k1 : numV 999 x1 = p.w0 := by rw [g1]; exact numV_itoa' (by omega) (by omega)
  have k2 : numV 999 x2 = p.h0 := by rw [g2]; exact numV_itoa' (by omega) (by omega)
  clear e9 e2 g0 g1 g2 ht hr
  have e' : spL L ⟨p.w0, p.h0, p.s, false, false, false, 4, 0, 0⟩ = some p := e
  rw [k0, k1, k2]
  exact e'
end Go.Proofs.YtjfdmdmlgdgchaaDoor
end
section
namespace Go.Proofs.YtjfdmdmlgdgchaaDoor
open Go.RowKit
set_option linter.unusedVariables false
theorem put9p {w : World} {b : Nat} {T : TypeId} {a0 a1 a2 a3 a4 a5 a6 a7 a8 : Value} (h : w.heap[b]? = some (.cells #[a0, a1, a2, a3, a4, a5, a6, a7, a8] T (0, 0))) (x0 x1 x2 x3 x4 x5 x6 x7 x8 : Value) : ((((((((((w).setCell ⟨b, 0, none⟩ x0).setCell ⟨b, 1, none⟩ x1).setCell ⟨b, 2, none⟩ x2).setCell ⟨b, 3, none⟩ x3).setCell ⟨b, 4, none⟩ x4).setCell ⟨b, 5, none⟩ x5).setCell ⟨b, 6, none⟩ x6).setCell ⟨b, 7, none⟩ x7).setCell ⟨b, 8, none⟩ x8).heap[b]? = some (.cells #[x0, x1, x2, x3, x4, x5, x6, x7, x8] T (0, 0)) := by
  have h0 : ((w).setCell ⟨b, 0, none⟩ x0).heap[b]? = some (.cells #[x0, a1, a2, a3, a4, a5, a6, a7, a8] T (0, 0)) := putS (i := 0) h x0
  have h1 : (((w).setCell ⟨b, 0, none⟩ x0).setCell ⟨b, 1, none⟩ x1).heap[b]? = some (.cells #[x0, x1, a2, a3, a4, a5, a6, a7, a8] T (0, 0)) := putS (i := 1) h0 x1
  have h2 : ((((w).setCell ⟨b, 0, none⟩ x0).setCell ⟨b, 1, none⟩ x1).setCell ⟨b, 2, none⟩ x2).heap[b]? = some (.cells #[x0, x1, x2, a3, a4, a5, a6, a7, a8] T (0, 0)) := putS (i := 2) h1 x2
  have h3 : (((((w).setCell ⟨b, 0, none⟩ x0).setCell ⟨b, 1, none⟩ x1).setCell ⟨b, 2, none⟩ x2).setCell ⟨b, 3, none⟩ x3).heap[b]? = some (.cells #[x0, x1, x2, x3, a4, a5, a6, a7, a8] T (0, 0)) := putS (i := 3) h2 x3
  have h4 : ((((((w).setCell ⟨b, 0, none⟩ x0).setCell ⟨b, 1, none⟩ x1).setCell ⟨b, 2, none⟩ x2).setCell ⟨b, 3, none⟩ x3).setCell ⟨b, 4, none⟩ x4).heap[b]? = some (.cells #[x0, x1, x2, x3, x4, a5, a6, a7, a8] T (0, 0)) := putS (i := 4) h3 x4
  have h5 : (((((((w).setCell ⟨b, 0, none⟩ x0).setCell ⟨b, 1, none⟩ x1).setCell ⟨b, 2, none⟩ x2).setCell ⟨b, 3, none⟩ x3).setCell ⟨b, 4, none⟩ x4).setCell ⟨b, 5, none⟩ x5).heap[b]? = some (.cells #[x0, x1, x2, x3, x4, x5, a6, a7, a8] T (0, 0)) := putS (i := 5) h4 x5
  have h6 : ((((((((w).setCell ⟨b, 0, none⟩ x0).setCell ⟨b, 1, none⟩ x1).setCell ⟨b, 2, none⟩ x2).setCell ⟨b, 3, none⟩ x3).setCell ⟨b, 4, none⟩ x4).setCell ⟨b, 5, none⟩ x5).setCell ⟨b, 6, none⟩ x6).heap[b]? = some (.cells #[x0, x1, x2, x3, x4, x5, x6, a7, a8] T (0, 0)) := putS (i := 6) h5 x6
  have h7 : (((((((((w).setCell ⟨b, 0, none⟩ x0).setCell ⟨b, 1, none⟩ x1).setCell ⟨b, 2, none⟩ x2).setCell ⟨b, 3, none⟩ x3).setCell ⟨b, 4, none⟩ x4).setCell ⟨b, 5, none⟩ x5).setCell ⟨b, 6, none⟩ x6).setCell ⟨b, 7, none⟩ x7).heap[b]? = some (.cells #[x0, x1, x2, x3, x4, x5, x6, x7, a8] T (0, 0)) := putS (i := 7) h6 x7
  have h8 : ((((((((((w).setCell ⟨b, 0, none⟩ x0).setCell ⟨b, 1, none⟩ x1).setCell ⟨b, 2, none⟩ x2).setCell ⟨b, 3, none⟩ x3).setCell ⟨b, 4, none⟩ x4).setCell ⟨b, 5, none⟩ x5).setCell ⟨b, 6, none⟩ x6).setCell ⟨b, 7, none⟩ x7).setCell ⟨b, 8, none⟩ x8).heap[b]? = some (.cells #[x0, x1, x2, x3, x4, x5, x6, x7, x8] T (0, 0)) := putS (i := 8) h7 x8
  exact h8
theorem keep9 {w : World} {b k : Nat} (hk : k ≠ b) (x0 x1 x2 x3 x4 x5 x6 x7 x8 : Value) : ((((((((((w).setCell ⟨b, 0, none⟩ x0).setCell ⟨b, 1, none⟩ x1).setCell ⟨b, 2, none⟩ x2).setCell ⟨b, 3, none⟩ x3).setCell ⟨b, 4, none⟩ x4).setCell ⟨b, 5, none⟩ x5).setCell ⟨b, 6, none⟩ x6).setCell ⟨b, 7, none⟩ x7).setCell ⟨b, 8, none⟩ x8).heap[k]? = w.heap[k]? := by
  rw [Below.heap_setCell _ _ _ _ hk, Below.heap_setCell _ _ _ _ hk, Below.heap_setCell _ _ _ _ hk, Below.heap_setCell _ _ _ _ hk, Below.heap_setCell _ _ _ _ hk, Below.heap_setCell _ _ _ _ hk, Below.heap_setCell _ _ _ _ hk, Below.heap_setCell _ _ _ _ hk, Below.heap_setCell _ _ _ _ hk]
section
variable {P : Program} {md : Region.Mode} {ops : Array Oper} {Q : Exit → Act → World → Prop}
theorem wpAny_oneG {f : Nat} {listed : Array Bool} {a : Act} {w : World} {i : Nat} {o : Oper} (hr : Region.ready md ops listed = [i]) (ho : ops[i]? = some o) (hg : Region.wanted o (yielded ops a.tmps) = true)
    (h : o.wp P a w (wpAny P md ops Q f (listed.setIfInBounds i true)) Q) : wpAny P md ops Q (f + 1) listed a w :=
  ⟨fun h0 => (by rw [hr] at h0; cases h0), fun j hj => by
    rw [hr] at hj
    obtain rfl := List.mem_singleton.1 hj
    unfold wpOp
    simp only [ho]
    rw [if_pos hg]
    exact .inl h⟩
theorem ready_consG {fuel : Nat} {listed : Array Bool} {a : Act} {w : World} {i : Nat} {o : Oper} {rs : List Nat} (ho : ops[i]? = some o) (hw : Region.wanted o (yielded ops a.tmps) = true)
    (h : ∀ K' : Act → World → Prop, (∀ a w, wpAny P md ops Q fuel (listed.setIfInBounds i true) a w → K' a w) → Oper.wp P o a w K' Q)
    (hs : AllReady P md ops Q fuel listed a w rs) : AllReady P md ops Q fuel listed a w (i :: rs) := AllReady.cons ho (fun K' hK' => by rw [if_pos hw]; exact h K' hK') hs
theorem wp_region_br {id : Nat} {a : Act} {w : World} (hm : P.follows .mixedOrders = true) (F : World → Prop) (hF : F w.drew) (h : ∀ W, F W → wpAny P .any ops (NoPan Q) ops.size (Array.replicate ops.size false) a W) : (Code.region id ops true).wp P Q a w := Code.wp_mono NoPan.imp (wp_region_any hm (h _ hF))
end
end Go.Proofs.YtjfdmdmlgdgchaaDoor
end
section
namespace Go.Proofs.YtjfdmdmlgdgchaaDoor
open Go.RowKit
set_option linter.unusedVariables false
set_option linter.unusedSimpArgs false
set_option maxHeartbeats 2000000
attribute [local go_sem] growUpon_value growUpon_skip growUpon_enter
/-! impl.ParsePack. -/
/-- the library's table of lengths holds some number -/
def MLN (w : World) : Prop := ∃ m, w.cell? ⟨0, 0, none⟩ = some (.int .i64 m)
theorem MLN.keep {w w' : World} (h : MLN w) (hb : Below w.heap.size w w') : MLN w' := by
  obtain ⟨m, hm⟩ := h
  have hl : 0 < w.heap.size := by
    unfold World.cell? at hm
    simp only at hm
    rcases Nat.eq_zero_or_pos w.heap.size with e | e
    · have : w.heap[0]? = none := by rw [Array.getElem?_eq_none]; omega
      rw [this] at hm
      simp at hm
    · exact e
  exact ⟨m, (hb.cell (p := ⟨0, 0, none⟩) hl).trans hm⟩
theorem split_v (l : List UInt8) (w : World) (hl : l.length ≤ 1048576) (hm : MLN w) : Calls Tryd.prog 25 #[tx l, .string ⟨#[32]⟩] w fun e w' => e = .returned (.slice (some ⟨w.heap.size, 0, none⟩) (splitL 32 l).length (splitL 32 l).length) ∧ w' = w.alloc (.cells (tvals (splitL 32 l)).toArray 9) := by
  obtain ⟨m, hm⟩ := hm
  refine (Tryd.strings_Split ⟨l.toArray⟩ ⟨#[32]⟩ m w (by show l.toArray.size < _; simp; omega) hm (by decide)).mono ?_
  rintro e w' ⟨rfl, rfl⟩
  have e1 := splitB_L 32 _ ⟨l.toArray⟩ rfl
  have e2 := Lib.splitB_all ⟨#[32]⟩ (by decide) 0 _ ⟨l.toArray⟩ rfl
  have e3 : (splitL 32 l) = (Lib.splitB ⟨#[32]⟩ 0 (Lib.countB ⟨l.toArray⟩ ⟨#[32]⟩) ⟨l.toArray⟩).map (·.data.toList) := e1.symm
  have e4 : tvals (splitL 32 l) = (Lib.splitB ⟨#[32]⟩ 0 (Lib.countB ⟨l.toArray⟩ ⟨#[32]⟩) ⟨l.toArray⟩).map Value.string := by
    rw [e3, tvals, List.map_map]
    exact List.map_congr_left (fun x _ => rfl)
  have e5 : (splitL 32 l).length = Lib.countB ⟨l.toArray⟩ ⟨#[32]⟩ + 1 := by rw [e3, List.length_map, e2]
  rw [e4, e5]
  exact ⟨rfl, rfl⟩
def PKV.val (p : PKV) : Value := .agg #[.int .i64 p.w0, .int .i64 p.h0, .int .i64 p.s, .bool p.fx, .bool p.fy, .bool p.ex, .int .i64 p.an, .int .i64 p.px, .int .i64 p.py]
def ansV : Option PKV → Value
  | some p => .tuple #[.agg #[.int .i64 p.w0, .int .i64 p.h0, .int .i64 p.s, .bool p.fx, .bool p.fy, .bool p.ex, .int .i64 p.an, .int .i64 p.px, .int .i64 p.py], .bool true]
  | none => .tuple #[.agg #[.int .i64 0, .int .i64 0, .int .i64 0, .bool false, .bool false, .bool false, .int .i64 0, .int .i64 0, .int .i64 0], .bool false]
theorem bput {B b i : Nat} {a w : World} {v : Value} (h : Below B a w) (hb : B ≤ b) : Below B a (w.setCell ⟨b, i, none⟩ v) := h.setCell hb _
theorem below_g {w w1 w2 : World} {b : Nat} (h : Below w.heap.size w w1) (hg : w1.grownBy w2 (some b)) (hb : w.heap.size ≤ b) : Below w.heap.size w w2 :=
  h.trans ⟨hg.os, hg.tape, hg.output, hg.size, fun k hk => hg.block k (Nat.lt_of_lt_of_le hk h.size) (fun e => by have := Option.some.inj e; omega)⟩
set_option maxRecDepth 100000 in
theorem ParsePack_v (l : List UInt8) (w : World) (hl : l.length ≤ 1048576) (hT : LT.TW w) (hm : MLN w) :
    Calls Tryd.prog 9 #[tx l] w fun e w' => e = .returned (ansV (prs l)) ∧ Below w.heap.size w w' := by
  have HS := Lib.hid (fun w h => split_v l w hl h)
  have hlen := splitL_len 32 l
  have hmem := splitL_mem 32 l
  obtain ⟨P, hP⟩ : ∃ P, pkP (splitL 32 l) = P := ⟨_, rfl⟩
  have HK := Lib.hid (fun b g w h hn => pack_v b g (splitL 32 l) w h hn (fun x hx => by have := hmem x hx; omega))
  rw [hP] at HK
  obtain ⟨R, hR⟩ : ∃ R, prs l = R := ⟨_, rfl⟩
  have hN : Hid (l = [] → R = none) := Lib.hid (fun h => by rw [← hR]; unfold prs; exact if_neg (fun h' => h'.1 h))
  have hY : Hid (l ≠ [] → P.txt = l → R = some P) := Lib.hid (fun h1 h2 => by rw [← hR]; unfold prs; rw [hP]; exact if_pos ⟨h1, h2⟩)
  have hZ : Hid (P.txt ≠ l → R = none) := Lib.hid (fun h2 => by rw [← hR]; unfold prs; rw [hP]; exact if_neg (fun h' => h2 h'.2))
  rw [hR]
  have HR : Hid (∀ w : World, SLs (w.alloc (.cells (tvals (splitL 32 l)).toArray 9)) w.heap.size 0 (splitL 32 l)) := Lib.hid (fun (w : World) => SLs.new w (splitL 32 l) 9)
  have hlen2 : (splitL 32 l).length ≤ 1048577 := by omega
  clear hP hR hlen hmem
  generalize splitL 32 l = L at *
  have HT0 := Lib.hid hT
  have HM0 := Lib.hid hm
  clear hT hm
  have HPT : Hid (∀ w, LT.TW w → Calls Tryd.prog 17 #[.agg #[.int .i64 P.w0, .int .i64 P.h0, .int .i64 P.s, .bool P.fx, .bool P.fy, .bool P.ex, .int .i64 P.an, .int .i64 P.px, .int .i64 P.py]] w fun e w' => e = .returned (tx P.txt) ∧ Below w.heap.size w w') := Lib.hid (fun w h => PackText_v P.w0 P.h0 P.s P.fx P.fy P.ex P.an P.px P.py w h)
  go_enter Tryd.func9, Tryd.ntmps9
  go_upto_region 1 with (fail)
  refine wp_PK (fun W => W.heap[w.heap.size]? = some (.cells #[.int .i64 0, .int .i64 0, .int .i64 0, .bool false, .bool false, .bool false, .int .i64 0, .int .i64 0, .int .i64 0] 23 (0, 0)) ∧ Below w.heap.size w W) ⟨newS w _, balloc (Below.refl _ _)⟩ ?_
  rintro W0 ⟨hz, hB⟩
  have HX := Lib.hid hz
  have HB := Lib.hid hB
  have hlt0 := ltS hz
  clear hz hB
  go_wp2_with fail
  with_reducible refine (HS.out _ (HM0.out.keep HB.out)).mono ?_
  rintro e w1 ⟨rfl, rfl⟩
  go_upto_region 2 with (fail)
  refine wp_PK (fun W => W.heap[w.heap.size]? = some (.cells #[.int .i64 0, .int .i64 0, .int .i64 0, .bool false, .bool false, .bool false, .int .i64 0, .int .i64 0, .int .i64 0] 23 (0, 0)) ∧ Below w.heap.size w W ∧ RDR (W0.heap.size + 1) W0.heap.size W L) ⟨(Below.heap_alloc _ _ _ (by simp; omega)).trans ((Below.heap_alloc _ _ _ hlt0).trans HX.out), balloc (balloc HB.out), ⟨0, L.length, by simpa using newS (W0.alloc (.cells (tvals L).toArray 9)) (.cells #[.slice (some ⟨W0.heap.size, 0, none⟩) L.length L.length] 42), (HR.out W0).keep (balloc (Below.refl _ _)), Nat.le_refl _, by omega⟩⟩ ?_
  rintro W1 ⟨hz, hB, hr⟩
  replace HX := Lib.hid hz
  replace HB := Lib.hid hB
  have HRD := Lib.hid hr
  clear hz hB hr HR
  go_wp2_with fail
  with_reducible refine (HK.out _ _ _ HRD.out (by omega)).mono ?_
  rintro e w3 ⟨rfl, hg⟩
  replace HX := Lib.hid ((hg.block _ (ltS HX.out) (fun e => absurd (Option.some.inj e) (by omega))).trans HX.out)
  replace HB := Lib.hid (below_g HB.out hg (by omega))
  clear hg HRD HK HS
  have hlt3 := ltS HX.out
  go_upto_region 3 with (fail)
  refine wp_PK (fun W => W.heap[w.heap.size]? = some (.cells #[.int .i64 0, .int .i64 0, .int .i64 0, .bool false, .bool false, .bool false, .int .i64 0, .int .i64 0, .int .i64 0] 23 (0, 0)) ∧ Below w.heap.size w W ∧ W.heap[w3.heap.size]? = some (.cells #[.int .i64 P.w0, .int .i64 P.h0, .int .i64 P.s, .bool P.fx, .bool P.fy, .bool P.ex, .int .i64 P.an, .int .i64 P.px, .int .i64 P.py] 23 (0, 0))) ⟨(Below.heap_alloc _ _ _ hlt3).trans HX.out, balloc HB.out, newS w3 _⟩ ?_
  rintro W2 ⟨hz, hB, hp⟩
  replace HX := Lib.hid hz
  replace HB := Lib.hid hB
  have HP := Lib.hid hp
  clear hz hB hp
  by_cases h0 : l = []
  · subst h0
    obtain rfl := hN.out rfl
    have e1 := fun s t w => eqg_cc .eql s t [] ⟨#[]⟩ w
    have e2 := eql_nil
    obtain ⟨q0, q1, q2, q3, q4, q5, q6, q7, q8⟩ := b9c HX.out
    have f0 := frozenS HX.out 0
    have f1 := frozenS HX.out 1
    have f2 := frozenS HX.out 2
    have f3 := frozenS HX.out 3
    have f4 := frozenS HX.out 4
    have f5 := frozenS HX.out 5
    have f6 := frozenS HX.out 6
    have f7 := frozenS HX.out 7
    have f8 := frozenS HX.out 8
    go_wp2
    exact bodyPost_ret (v := ansV none) (by simp only [results, Tryd.results9]; go_simp; rfl) rfl ⟨rfl, bput (bput (bput (bput (bput (bput (bput (bput (bput (HB.out) (by show w.heap.size ≤ _; omega)) (by show w.heap.size ≤ _; omega)) (by show w.heap.size ≤ _; omega)) (by show w.heap.size ≤ _; omega)) (by show w.heap.size ≤ _; omega)) (by show w.heap.size ≤ _; omega)) (by show w.heap.size ≤ _; omega)) (by show w.heap.size ≤ _; omega)) (by show w.heap.size ≤ _; omega)⟩
  · have e1 := fun s t w => eqg_cc .eql s t l ⟨#[]⟩ w
    have e2 := eql_no l h0
    have e3 := fun s t w => eqg_tx .neq s t P.txt l w
    obtain ⟨p0, p1, p2, p3, p4, p5, p6, p7, p8⟩ := b9c HP.out
    go_wp2_with fail
    with_reducible refine (HPT.out _ (HT0.out.keep HB.out)).mono ?_
    rintro e w4 ⟨rfl, hb⟩
    clear p0 p1 p2 p3 p4 p5 p6 p7 p8
    replace HX := Lib.hid ((hb.block _ (Array.getElem?_eq_some_iff.1 HX.out).1).trans HX.out)
    replace HP := Lib.hid ((hb.block _ (Array.getElem?_eq_some_iff.1 HP.out).1).trans HP.out)
    replace HB := Lib.hid (bkeep2 HB.out hb)
    clear hb
    by_cases hc : P.txt = l
    · obtain rfl := hY.out h0 hc
      have e4 : ∀ w, (binOp .neq 9 (tx P.txt) (tx l)).run Tryd.prog w = .ok (.bool false) w := by rw [hc]; exact ne_same l
      clear hc h0
      obtain ⟨p0, p1, p2, p3, p4, p5, p6, p7, p8⟩ := b9c HP.out
      obtain ⟨q0, q1, q2, q3, q4, q5, q6, q7, q8⟩ := b9c HX.out
      have f0 := frozenS HX.out 0
      have f1 := frozenS HX.out 1
      have f2 := frozenS HX.out 2
      have f3 := frozenS HX.out 3
      have f4 := frozenS HX.out 4
      have f5 := frozenS HX.out 5
      have f6 := frozenS HX.out 6
      have f7 := frozenS HX.out 7
      have f8 := frozenS HX.out 8
      go_wp2
      exact bodyPost_ret (v := ansV (some P)) (by simp only [results, Tryd.results9]; go_simp; rfl) rfl ⟨rfl, bput (bput (bput (bput (bput (bput (bput (bput (bput (HB.out) (by show w.heap.size ≤ _; omega)) (by show w.heap.size ≤ _; omega)) (by show w.heap.size ≤ _; omega)) (by show w.heap.size ≤ _; omega)) (by show w.heap.size ≤ _; omega)) (by show w.heap.size ≤ _; omega)) (by show w.heap.size ≤ _; omega)) (by show w.heap.size ≤ _; omega)) (by show w.heap.size ≤ _; omega)⟩
    · obtain rfl := hZ.out hc
      have e4 := neq_yes P.txt l hc
      clear hc h0
      obtain ⟨q0, q1, q2, q3, q4, q5, q6, q7, q8⟩ := b9c HX.out
      have f0 := frozenS HX.out 0
      have f1 := frozenS HX.out 1
      have f2 := frozenS HX.out 2
      have f3 := frozenS HX.out 3
      have f4 := frozenS HX.out 4
      have f5 := frozenS HX.out 5
      have f6 := frozenS HX.out 6
      have f7 := frozenS HX.out 7
      have f8 := frozenS HX.out 8
      go_wp2
      exact bodyPost_ret (v := ansV none) (by simp only [results, Tryd.results9]; go_simp; rfl) rfl ⟨rfl, bput (bput (bput (bput (bput (bput (bput (bput (bput (HB.out) (by show w.heap.size ≤ _; omega)) (by show w.heap.size ≤ _; omega)) (by show w.heap.size ≤ _; omega)) (by show w.heap.size ≤ _; omega)) (by show w.heap.size ≤ _; omega)) (by show w.heap.size ≤ _; omega)) (by show w.heap.size ≤ _; omega)) (by show w.heap.size ≤ _; omega)) (by show w.heap.size ≤ _; omega)⟩
end Go.Proofs.YtjfdmdmlgdgchaaDoor
end
