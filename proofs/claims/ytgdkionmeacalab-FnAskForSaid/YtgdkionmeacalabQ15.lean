import Derived.Test.YtgdkionmeacalabQ14
import Derived.Laws.CopyOwn
import Derived.RangeFuncNested
import Derived.RangeFuncBound
import Derived.RangeFuncCalls
import Derived.RangeFuncLeaves
import Derived.Shelf.Abstract
import Derived.Shelf.RegionOpen
import Derived.WalkKit
import Derived.OwnWalkIn
import Derived.TacticsInMore
import Derived.LoopNIn
import Derived.LoopIn
section
namespace Go.Proofs.Ytgdkionmeacalab
set_option linter.unusedVariables false
/-- the weights of the lines that are above their least sizes -/
def wtZ : List Ln → List Int → List Int
  | l :: L, o :: O => (if l.mi < o then l.wt else 0) :: wtZ L O
  | _, _ => []
/-- the sizes, after each line has given its part, as far as it can -/
def takZ : List Ln → List Int → List Int → List Int
  | l :: L, o :: O, p :: P => (o - mn p (o - l.mi)) :: takZ L O P
  | _, O, _ => O
/-- what they have given together -/
def tknZ : List Ln → List Int → List Int → Int
  | l :: L, o :: O, p :: P => mn p (o - l.mi) + tknZ L O P
  | _, _, _ => 0
def shrZ (L : List Ln) (n : Int) (O : List Int) : List Int :=
  if h : 0 < n ∧ sumI (wtZ L O) ≠ 0 ∧ 0 < tknZ L O (spreadM n (wtZ L O)) then shrZ L (n - tknZ L O (spreadM n (wtZ L O))) (takZ L O (spreadM n (wtZ L O))) else O
termination_by n.toNat
decreasing_by omega
/-- none is below its least size, none too great -/
def SOK : List Ln → List Int → Prop
  | l :: L, o :: O => (l.mi ≤ o ∧ o ≤ 1000000) ∧ SOK L O
  | [], [] => True
  | _, _ => False
theorem SOK.len : ∀ {L : List Ln} {O : List Int}, SOK L O → O.length = L.length
  | [], [], _ => rfl
  | l :: L, o :: O, h => by simp [SOK.len h.2]
  | [], o :: O, h => by simp [SOK] at h
  | l :: L, [], h => by simp [SOK] at h
theorem SOK.get : ∀ {L : List Ln} {O : List Int} {i : Nat} {l : Ln} {o : Int}, SOK L O → L[i]? = some l → O[i]? = some o → l.mi ≤ o ∧ o ≤ 1000000
  | l' :: L, o' :: O, 0, l, o, h, hl, ho => by
    simp only [List.getElem?_cons_zero, Option.some.injEq] at hl ho
    subst hl ho
    exact h.1
  | l' :: L, o' :: O, i + 1, l, o, h, hl, ho => by
    simp only [List.getElem?_cons_succ] at hl ho
    exact SOK.get h.2 hl ho
  | [], _, i, l, o, _, hl, _ => by simp at hl
  | _ :: _, [], i, l, o, _, _, ho => by simp at ho
/-- the weights that are left, while the lines go out -/
def WI : List Ln → List Int → List Int → Prop
  | l :: L, o :: O, x :: W => (x = l.wt ∨ (x = 0 ∧ o = l.mi)) ∧ WI L O W
  | [], [], [] => True
  | _, _, _ => False
theorem WI.all : ∀ {L : List Ln} {O : List Int}, O.length = L.length → WI L O (L.map Ln.wt)
  | [], [], _ => by simp [WI]
  | l :: L, o :: O, h => ⟨.inl rfl, WI.all (by simpa using h)⟩
  | [], o :: O, h => by simp at h
  | l :: L, [], h => by simp at h
theorem WI.len : ∀ {L : List Ln} {O W : List Int}, WI L O W → W.length = L.length ∧ O.length = L.length
  | [], [], [], _ => ⟨rfl, rfl⟩
  | l :: L, o :: O, x :: W, h => by have := WI.len h.2; simp; omega
  | [], o :: O, W, h => by simp [WI] at h
  | [], [], x :: W, h => by simp [WI] at h
  | l :: L, [], W, h => by simp [WI] at h
  | l :: L, o :: O, [], h => by simp [WI] at h
/-- the first k are settled -/
def mixW (L : List Ln) (O W : List Int) (k : Nat) : List Int := (wtZ L O).take k ++ W.drop k
theorem WI.get : ∀ {L : List Ln} {O W : List Int} {k : Nat} {l : Ln} {o x : Int}, WI L O W → L[k]? = some l → O[k]? = some o → W[k]? = some x → x = l.wt ∨ (x = 0 ∧ o = l.mi)
  | l' :: L, o' :: O, x' :: W, 0, l, o, x, h, hl, ho, hx => by
    simp only [List.getElem?_cons_zero, Option.some.injEq] at hl ho hx
    subst hl ho hx
    exact h.1
  | l' :: L, o' :: O, x' :: W, k + 1, l, o, x, h, hl, ho, hx => by
    simp only [List.getElem?_cons_succ] at hl ho hx
    exact WI.get h.2 hl ho hx
  | [], _, _, k, l, o, x, _, hl, _, _ => by simp at hl
  | _ :: _, [], _, k, l, o, x, _, _, ho, _ => by simp at ho
  | _ :: _, _ :: _, [], k, l, o, x, _, _, _, hx => by simp at hx
end Go.Proofs.Ytgdkionmeacalab
end
section
namespace Go.Proofs.Ytgdkionmeacalab
open Go.RowKit
set_option linter.unusedVariables false
set_option maxHeartbeats 1000000
attribute [local go_sem 5000] run_mx run_mn
attribute [local go_sem] growUpon_value growUpon_skip growUpon_enter
theorem SOK.each {L : List Ln} {O : List Int} (hL : linesB L = true) (h : SOK L O) {i : Nat} {l : Ln} {o : Int} (hl : L[i]? = some l) (ho : O[i]? = some o) : 0 ≤ l.mi ∧ l.mi ≤ 30 ∧ l.mi ≤ o ∧ o ≤ 1000000 := by
  have h1 := h.get hl ho
  have h2 := hL
  simp only [linesB, Bool.and_eq_true, rng_iff, List.all_eq_true, lineB, wB] at h2
  have h3 := (h2.2 l (List.mem_of_getElem? hl)).2
  omega
end Go.Proofs.Ytgdkionmeacalab
end
section
namespace Go.Proofs.Ytgdkionmeacalab
open Go.RowKit
set_option linter.unusedVariables false
set_option maxHeartbeats 1000000
attribute [local go_sem 5000] run_mx run_mn
attribute [local go_sem] growUpon_value growUpon_skip growUpon_enter
/-- none is below its least size -/
def MI (L : List Ln) (O : List Int) : Prop := ∀ (i : Nat) (l : Ln) (o : Int), L[i]? = some l → O[i]? = some o → l.mi ≤ o
theorem addP_ge : ∀ {O P : List Int} {i : Nat} {o' : Int}, (∀ x ∈ P, 0 ≤ x) → (addP O P)[i]? = some o' → ∃ o, O[i]? = some o ∧ o ≤ o'
  | [], P, i, o', _, h => by simp [addP] at h
  | o :: O, [], i, o', _, h => ⟨o', by simpa [addP] using h, Int.le_refl _⟩
  | o :: O, p :: P, 0, o', hp, h => by
    have := hp p List.mem_cons_self
    simp only [addP, List.getElem?_cons_zero, Option.some.injEq] at h
    exact ⟨o, rfl, by omega⟩
  | o :: O, p :: P, i + 1, o', hp, h => by
    simp only [addP, List.getElem?_cons_succ] at h
    obtain ⟨q, h1, h2⟩ := addP_ge (fun x hx => hp x (List.mem_cons_of_mem _ hx)) h
    exact ⟨q, by simpa using h1, h2⟩
theorem addAt_ge {O P : List Int} {k i : Nat} {o' : Int} (hp : ∀ x ∈ P, 0 ≤ x) (h : (addAt O k P)[i]? = some o') : ∃ o, O[i]? = some o ∧ o ≤ o' := by
  unfold addAt at h
  by_cases hi : i < (O.take k).length
  · rw [List.getElem?_append_left hi] at h
    have h2 : i < k := by rw [List.length_take] at hi; omega
    rw [List.getElem?_take, if_pos h2] at h
    exact ⟨o', h, Int.le_refl _⟩
  · rw [List.getElem?_append_right (by omega)] at h
    obtain ⟨o, h1, h2⟩ := addP_ge hp h
    rw [List.getElem?_drop] at h1
    rw [List.length_take] at h1 hi
    by_cases hk : k ≤ O.length
    · rw [show k + (i - min k O.length) = i from by omega] at h1
      exact ⟨o, h1, h2⟩
    · have := (List.getElem?_eq_some_iff.1 h1).1
      omega
theorem MI.add {L : List Ln} {O P : List Int} {k : Nat} (h : MI L O) (hp : ∀ x ∈ P, 0 ≤ x) : MI L (addAt O k P) := fun i l o hl ho => by
  obtain ⟨o1, h1, h2⟩ := addAt_ge hp ho
  have := h i l o1 hl h1
  omega
theorem MI.step {L : List Ln} {O ws : List Int} {n : Nat} {s : Sp} (h : MI L O) (hw : wsOK ws) (hl : ws.length = n) (hs : spanB n s = true) : MI L (stepM ws O s) := by
  obtain ⟨a, m, e1, e2, h1, h2, h3, h4⟩ := spanB_yes hs
  unfold stepM
  rw [show s.sa.toNat = a from by omega, show s.many.toNat = m from by omega]
  exact h.add (spread_nn (by have := mx_spec (s.need - sumI (segI O a m)) 0; omega) (seg_ok hw h1 (by omega)))
theorem MI.round {L : List Ln} {ws : List Int} {n : Nat} {m : Int} (hw : wsOK ws) (hl : ws.length = n) : ∀ {S : List Sp} {O : List Int}, (∀ s ∈ S, spanB n s = true) → MI L O → MI L (roundM ws m S O)
  | [], O, _, h => h
  | s :: S, O, hs, h => by
    unfold roundM
    rw [List.foldl_cons]
    have hs' : ∀ s ∈ S, spanB n s = true := fun x hx => hs x (List.mem_cons_of_mem _ hx)
    split
    · exact MI.round hw hl hs' (h.step hw hl (hs s List.mem_cons_self))
    · exact MI.round hw hl hs' h
theorem SOK.of : ∀ {L : List Ln} {O : List Int}, O.length = L.length → MI L O → (∀ x ∈ O, x ≤ 1000000) → SOK L O
  | [], [], _, _, _ => trivial
  | l :: L, o :: O, hl, h, hx => ⟨⟨h 0 l o rfl rfl, hx o List.mem_cons_self⟩, SOK.of (by simpa using hl) (fun i l' o' h1 h2 => h (i + 1) l' o' (by simpa using h1) (by simpa using h2)) (fun x hm => hx x (List.mem_cons_of_mem _ hm))⟩
  | [], o :: O, h, _, _ => by simp at h
  | l :: L, [], h, _, _ => by simp at h
/-- the sizes in a room -/
def sizedM (L : List Ln) (S : List Sp) (room : Int) : List Int :=
  if room - sumI (wishM L S) < 0 then shrZ L (-(room - sumI (wishM L S))) (wishM L S)
  else if sumI (L.map Ln.wt) = 0 then wishM L S
  else addAt (wishM L S) 0 (spreadM (room - sumI (wishM L S)) (L.map Ln.wt))
end Go.Proofs.Ytgdkionmeacalab
end
section
namespace Go.Proofs.Ytgdkionmeacalab
open Go.RowKit
set_option linter.unusedVariables false
set_option maxHeartbeats 1000000
attribute [local go_sem 5000] run_mx run_mn
attribute [local go_sem] growUpon_value growUpon_skip growUpon_enter
theorem OB.but {w w' : World} {g h cap : Nat} {L : List Int} (hi : OB w h cap L) (hg : w.grownBy w' (some g)) (hne : h ≠ g) : OB w' h cap L := by
  obtain ⟨hl, cs, hh, hs, hc⟩ := hi
  exact ⟨hl, cs, (hg.block h (ltS hh) (fun e => hne (Option.some.inj e))).trans hh, hs, hc⟩
end Go.Proofs.Ytgdkionmeacalab
end
section
namespace Go.Proofs.Ytgdkionmeacalab
open Go.RowKit
set_option linter.unusedVariables false
set_option maxHeartbeats 1000000
attribute [local go_sem 5000] run_mx run_mn
attribute [local go_sem] growUpon_value growUpon_skip growUpon_enter
def sizedO (L : List Ln) (O : List Int) (room : Int) : List Int :=
  if room - sumI O < 0 then shrZ L (-(room - sumI O)) O
  else if sumI (L.map Ln.wt) = 0 then O
  else addAt O 0 (spreadM (room - sumI O) (L.map Ln.wt))
end Go.Proofs.Ytgdkionmeacalab
end
section
namespace Go.Proofs.Ytgdkionmeacalab
open Go.RowKit
set_option linter.unusedVariables false
set_option maxHeartbeats 1000000
attribute [local go_sem] growUpon_value growUpon_skip growUpon_enter
def spvalsN : List Sp → List Value
  | [] => []
  | r :: t => valsSp r ++ spvalsN t
theorem spvalsN_get : ∀ {M : List Sp} {i : Nat} {r : Sp}, M[i]? = some r → ∀ j, j < 3 → (spvalsN M)[i * 3 + j]? = (valsSp r)[j]?
  | [], i, r, h, _, _ => by simp at h
  | q :: t, 0, r, h, j, hj => by
    simp at h; subst h
    show (valsSp q ++ spvalsN t)[0 * 3 + j]? = _
    rw [List.getElem?_append_left (by simp [valsSp]; omega)]; simp
  | q :: t, i + 1, r, h, j, hj => by
    show (valsSp q ++ spvalsN t)[(i + 1) * 3 + j]? = _
    rw [List.getElem?_append_right (by simp [valsSp]; omega)]
    have := spvalsN_get (M := t) (i := i) (r := r) (by simpa using h) j hj
    rw [← this]; congr 1; simp [valsSp]; omega
/-- the value reads as the list -/
def SpR (w : World) (v : Value) (L : List Sp) : Prop := ∃ A c, v = .slice A L.length c ∧ SpV w A L
theorem SpR.keep {w w' : World} {v : Value} {L : List Sp} (h : SpR w v L) (hb : Below w.heap.size w w') : SpR w' v L := let ⟨A, c, e, n⟩ := h; ⟨A, c, e, n.keep hb⟩
theorem SpR.own {w : World} {base n : Nat} {v : Value} {M : List Sp} {T : TypeId} (h : w.ownsRow base T 3 v n (spvalsN M)) (hn : n = M.length) : SpR w v M := by
  subst hn
  have hl := h.lt
  have hc := fun g hg => h.cells (g := g) hg
  rcases h.2 with ⟨rfl, h0⟩ | ⟨g, cap, cur, rfl, _⟩
  · exact ⟨none, 0, by rw [h0], ⟨fun h => absurd h (by omega)⟩⟩
  · refine ⟨_, cap, rfl, ⟨fun _ => ⟨g, 0, rfl, (hl g rfl).2, fun i r hr => ?_⟩⟩⟩
    have e : ∀ j, j < 3 → ∀ u, (valsSp r)[j]? = some u → w.cell? ⟨g, 0 + i * 3 + j, none⟩ = some u := fun j hj u hu => by
      have h1 := hc g rfl (i * 3 + j) u ((spvalsN_get hr j hj).trans hu)
      have hadd : (⟨g, 0, none⟩ : Addr).add (i * 3 + j) = ⟨g, i * 3 + j, none⟩ := by unfold Addr.add; split <;> simp_all
      rw [hadd] at h1
      rwa [Nat.zero_add]
    exact ⟨e 0 (by omega) _ rfl, e 1 (by omega) _ rfl, e 2 (by omega) _ rfl⟩
end Go.Proofs.Ytgdkionmeacalab
end
section
namespace Go.Proofs.Ytgdkionmeacalab
open Go.RowKit
set_option linter.unusedVariables false
set_option maxHeartbeats 1000000
attribute [local go_sem] growUpon_value growUpon_skip growUpon_enter
attribute [local go_sem] givesUpon_value givesUpon_skip givesUpon_enter
def NRz (w : World) (v : Value) (n : Nat) (L : List Int) : Prop := ∃ A c, v = .slice A n c ∧ NV w A L
theorem NRz.keep {w w' : World} {v : Value} {n : Nat} {L : List Int} (h : NRz w v n L) (hb : Below w.heap.size w w') : NRz w' v n L := let ⟨A, c, e, q⟩ := h; ⟨A, c, e, q.keep hb⟩
set_option maxRecDepth 100000 in
theorem gridRequest_w (A1 : Option Addr) (c1 : Nat) (L1 : List Ln) (A2 : Option Addr) (c2 : Nat) (L2 : List Ln) (A3 : Option Addr) (c3 : Nat) (L3 : List Ce) (w : World) (h1 : LnV w A1 L1) (h2 : LnV w A2 L2) (h3 : CeV w A3 L3) (v1 : linesB L1 = true) (v2 : linesB L2 = true) (hl8 : L3.length ≤ 10) (hsm : ∀ p ∈ L3, smW p) (hs1 : spansW L1.length (L3.map acM)) (hs2 : spansW L2.length (L3.map dnM)) :
    Calls Try.prog 112 #[.agg #[.slice A1 L1.length c1, .slice A2 L2.length c2, .slice A3 L3.length c3]] w fun e w' => e = .returned (.tuple #[.int .i64 (sumI (wishM L1 (L3.map acM))), .int .i64 (sumI (wishM L2 (L3.map dnM)))]) ∧ Below w.heap.size w w' := by
  obtain ⟨m1, q1⟩ := wish_smalW v1 hs1
  obtain ⟨m2, q2⟩ := wish_smalW v2 hs2
  have n1 := (linesB_len v1).2
  have n2 := (linesB_len v2).2
  have hB0 : Below w.heap.size w (w.alloc (.cells #[.slice A1 L1.length c1, .slice A2 L2.length c2, .slice A3 L3.length c3] 110 (0, 0))) := balloc (Below.refl _ _)
  have hx0 := newS w (.cells #[.slice A1 L1.length c1, .slice A2 L2.length c2, .slice A3 L3.length c3] 110 (0, 0))
  have HV1 := Lib.hid (h1.keep hB0)
  have HV2 := Lib.hid (h2.keep hB0)
  have HV3 := Lib.hid (h3.keep hB0)
  have HX := Lib.hid hx0
  have HB := Lib.hid hB0
  have HS1 := Lib.hid v1
  have HS2 := Lib.hid v2
  have HM1 := Lib.hid m1
  have HM2 := Lib.hid m2
  have HSM := Lib.hid hsm
  have HK1 := Lib.hid hs1
  have HK2 := Lib.hid hs2
  have HL1 := Lib.hid q1
  have HL2 := Lib.hid q2
  clear hB0 hx0 h1 h2 h3 v1 v2 m1 m2 hsm hs1 hs2 q1 q2
  go_enter Try.func112, Try.ntmps112
  have d0 := cellS HX.out 0
  have d1 := cellS HX.out 1
  have d2 := cellS HX.out 2
  have lx := ltS HX.out
  go_wp2_with fail
  refine wp_region_rx (XV (.pointer (some ⟨w.heap.size, 0, none⟩)) :: XV (.slice A1 L1.length c1) :: XV (.pointer (some ⟨w.heap.size, 2, none⟩)) :: XV (.slice A3 L3.length c3) :: (fun v w => SpR w v (L3.map acM)) :: (fun v w => NRz w v L1.length (wishM L1 (L3.map acM))) :: (fun v w => NRz w v L1.length (wishM L1 (L3.map acM))) :: []) (by kernel_rfl) (by kernel_rfl) ?hTs ?hops ?hfin
  case hTs =>
    intro T hT
    simp only [List.mem_cons, List.not_mem_nil, or_false] at hT
    rcases hT with rfl | rfl | rfl | rfl | rfl | rfl | rfl <;> first | exact stay_V _ | exact stay_T | exact stay_of (fun v a b x g => x.keep g) | exact stay_of (fun v a b x g => x)
  case hops =>
    refine ⟨opOK_rx [(1, none)] (by kernel_rfl) rfl ?_, ?_⟩
    · intro act w' hw' h1
      have hk : ∀ v, act.eval (.const v) = v := fun _ => rfl
      have hf : ∀ f, act.eval (.func f) = .func (.func f) #[] #[] := fun _ => rfl
      generalize act.eval = ρ at *
      replace h1 : ρ (.tmp 1) = .pointer (some ⟨w.heap.size, 0, none⟩) := h1
      refine gx_gen (fun K hK => ?_)
      obtain ⟨hc, hf'⟩ := bcell (bdrewn hw'.out)
      go_simp
      exact hK _ _ ⟨rfl, Gr.refl _⟩
    refine ⟨opOK_rx [(6, some 0)] (by kernel_rfl) rfl ?_, ?_⟩
    · intro act w' hw' h1
      have hk : ∀ v, act.eval (.const v) = v := fun _ => rfl
      have hf : ∀ f, act.eval (.func f) = .func (.func f) #[] #[] := fun _ => rfl
      generalize act.eval = ρ at *
      replace h1 : ρ (.tmp 6) = .pointer (some ⟨w.heap.size, 0, none⟩) := h1
      refine gx_gen (fun K hK => ?_)
      obtain ⟨hc, hf'⟩ := bcell (bdrewn hw'.out)
      go_simp
      exact hK _ _ ⟨rfl, Gr.refl _⟩
    refine ⟨opOK_rx [(1, none)] (by kernel_rfl) rfl ?_, ?_⟩
    · intro act w' hw' h1
      have hk : ∀ v, act.eval (.const v) = v := fun _ => rfl
      have hf : ∀ f, act.eval (.func f) = .func (.func f) #[] #[] := fun _ => rfl
      generalize act.eval = ρ at *
      replace h1 : ρ (.tmp 1) = .pointer (some ⟨w.heap.size, 0, none⟩) := h1
      refine gx_gen (fun K hK => ?_)
      obtain ⟨hc, hf'⟩ := bcell (bdrewn hw'.out)
      go_simp
      exact hK _ _ ⟨rfl, Gr.refl _⟩
    refine ⟨opOK_rx [(8, some 2)] (by kernel_rfl) rfl ?_, ?_⟩
    · intro act w' hw' h1
      have hk : ∀ v, act.eval (.const v) = v := fun _ => rfl
      have hf : ∀ f, act.eval (.func f) = .func (.func f) #[] #[] := fun _ => rfl
      generalize act.eval = ρ at *
      replace h1 : ρ (.tmp 8) = .pointer (some ⟨w.heap.size, 2, none⟩) := h1
      refine gx_gen (fun K hK => ?_)
      obtain ⟨hc, hf'⟩ := bcell (bdrewn hw'.out)
      go_simp
      exact hK _ _ ⟨rfl, Gr.refl _⟩
    refine ⟨opOK_rx [(9, some 3)] (by kernel_rfl) rfl ?_, ?_⟩
    · intro act w' hw' h1
      have hk : ∀ v, act.eval (.const v) = v := fun _ => rfl
      have hf : ∀ f, act.eval (.func f) = .func (.func f) #[] #[] := fun _ => rfl
      generalize act.eval = ρ at *
      replace h1 : ρ (.tmp 9) = .slice A3 L3.length c3 := h1
      refine gx_gen (fun K hK => ?_)
      obtain ⟨hc, hf'⟩ := bcell (bdrewn hw'.out)
      go_simp
      (with_reducible refine (each_acrossW A3 c3 L3 _ (HV3.out.keep (bdrewn hw'.out)) (by omega) HSM.out).mono ?_); rintro e w1 ⟨rfl, hr1, hb1⟩; exact ⟨_, rfl, hK _ _ ⟨⟨_, _, by rw [List.length_map], hr1.v⟩, hb1⟩⟩
    refine ⟨opOK_rx [(7, some 1), (10, some 4)] (by kernel_rfl) rfl ?_, ?_⟩
    · intro act w' hw' h1 h2
      have hk : ∀ v, act.eval (.const v) = v := fun _ => rfl
      have hf : ∀ f, act.eval (.func f) = .func (.func f) #[] #[] := fun _ => rfl
      generalize act.eval = ρ at *
      replace h1 : ρ (.tmp 7) = .slice A1 L1.length c1 := h1
      replace h2 : (fun v w => SpR w v (L3.map acM)) (ρ (.tmp 10)) w' := h2
      refine gx_gen (fun K hK => ?_)
      obtain ⟨hc, hf'⟩ := bcell (bdrewn hw'.out)
      go_simp
      obtain ⟨A, c, e, hs⟩ := h2; rw [e]; (with_reducible refine (lineRequests_w A1 c1 L1 A c (L3.map acM) _ (HV1.out.keep (bdrewn hw'.out)) HS1.out hs HK1.out).mono ?_); rintro e w1 ⟨rfl, hr1, hb1⟩; exact ⟨_, rfl, hK _ _ ⟨⟨_, _, rfl, hr1.nv⟩, hb1⟩⟩
    refine ⟨opOK_rx [(11, some 5)] (by kernel_rfl) rfl ?_, ?_⟩
    · intro act w' hw' h1
      have hk : ∀ v, act.eval (.const v) = v := fun _ => rfl
      have hf : ∀ f, act.eval (.func f) = .func (.func f) #[] #[] := fun _ => rfl
      generalize act.eval = ρ at *
      replace h1 : (fun v w => NRz w v L1.length (wishM L1 (L3.map acM))) (ρ (.tmp 11)) w' := h1
      refine gx_gen (fun K hK => ?_)
      obtain ⟨hc, hf'⟩ := bcell (bdrewn hw'.out)
      go_simp
      exact hK _ _ ⟨h1, Gr.refl _⟩
    exact trivial
  case hfin =>
    intro w1 hg1
    intro v6 t6
    replace t6 : v6 = .pointer (some ⟨w.heap.size, 0, none⟩) := t6
    subst t6
    intro v7 t7
    replace t7 : v7 = .slice A1 L1.length c1 := t7
    subst t7
    intro v8 t8
    replace t8 : v8 = .pointer (some ⟨w.heap.size, 2, none⟩) := t8
    subst t8
    intro v9 t9
    replace t9 : v9 = .slice A3 L3.length c3 := t9
    subst t9
    intro v10 t10
    replace t10 : (fun v w => SpR w v (L3.map acM)) v10 w1 := t10
    intro v11 t11
    replace t11 : (fun v w => NRz w v L1.length (wishM L1 (L3.map acM))) v11 w1 := t11
    intro v4 t4
    replace t4 : (fun v w => NRz w v L1.length (wishM L1 (L3.map acM))) v4 w1 := t4
    have hb1 := bdrewn hg1.out
    clear hg1
    simp only [finP, Act.put, List.setIfInBounds_toArray, List.set_cons_succ, List.set_cons_zero]
    obtain ⟨B1, e1, rfl, hn1⟩ := t4
    clear t10 t11 d0 d1 d2 lx
    replace HX := Lib.hid ((hb1.block _ (Array.getElem?_eq_some_iff.1 HX.out).1).trans HX.out)
    replace HV1 := Lib.hid (HV1.out.keep hb1)
    replace HV2 := Lib.hid (HV2.out.keep hb1)
    replace HV3 := Lib.hid (HV3.out.keep hb1)
    replace HB := Lib.hid (bkeep2 HB.out hb1)
    clear hb1
    have HN1 := Lib.hid hn1
    clear hn1
    have d0 := cellS HX.out 0
    have d1 := cellS HX.out 1
    have d2 := cellS HX.out 2
    have lx := ltS HX.out
    go_wp2_with fail
    refine wp_region_rx (XV (.pointer (some ⟨w.heap.size, 1, none⟩)) :: XV (.slice A2 L2.length c2) :: XV (.pointer (some ⟨w.heap.size, 2, none⟩)) :: XV (.slice A3 L3.length c3) :: (fun v w => SpR w v (L3.map dnM)) :: (fun v w => NRz w v L2.length (wishM L2 (L3.map dnM))) :: (fun v w => NRz w v L2.length (wishM L2 (L3.map dnM))) :: []) (by kernel_rfl) (by kernel_rfl) ?hTs ?hops ?hfin
    case hTs =>
      intro T hT
      simp only [List.mem_cons, List.not_mem_nil, or_false] at hT
      rcases hT with rfl | rfl | rfl | rfl | rfl | rfl | rfl <;> first | exact stay_V _ | exact stay_T | exact stay_of (fun v a b x g => x.keep g) | exact stay_of (fun v a b x g => x)
    case hops =>
      refine ⟨opOK_rx [(1, none)] (by kernel_rfl) rfl ?_, ?_⟩
      · intro act w' hw' h1
        have hk : ∀ v, act.eval (.const v) = v := fun _ => rfl
        have hf : ∀ f, act.eval (.func f) = .func (.func f) #[] #[] := fun _ => rfl
        generalize act.eval = ρ at *
        replace h1 : ρ (.tmp 1) = .pointer (some ⟨w.heap.size, 0, none⟩) := h1
        refine gx_gen (fun K hK => ?_)
        obtain ⟨hc, hf'⟩ := bcell (bdrewn hw'.out)
        go_simp
        exact hK _ _ ⟨rfl, Gr.refl _⟩
      refine ⟨opOK_rx [(12, some 0)] (by kernel_rfl) rfl ?_, ?_⟩
      · intro act w' hw' h1
        have hk : ∀ v, act.eval (.const v) = v := fun _ => rfl
        have hf : ∀ f, act.eval (.func f) = .func (.func f) #[] #[] := fun _ => rfl
        generalize act.eval = ρ at *
        replace h1 : ρ (.tmp 12) = .pointer (some ⟨w.heap.size, 1, none⟩) := h1
        refine gx_gen (fun K hK => ?_)
        obtain ⟨hc, hf'⟩ := bcell (bdrewn hw'.out)
        go_simp
        exact hK _ _ ⟨rfl, Gr.refl _⟩
      refine ⟨opOK_rx [(1, none)] (by kernel_rfl) rfl ?_, ?_⟩
      · intro act w' hw' h1
        have hk : ∀ v, act.eval (.const v) = v := fun _ => rfl
        have hf : ∀ f, act.eval (.func f) = .func (.func f) #[] #[] := fun _ => rfl
        generalize act.eval = ρ at *
        replace h1 : ρ (.tmp 1) = .pointer (some ⟨w.heap.size, 0, none⟩) := h1
        refine gx_gen (fun K hK => ?_)
        obtain ⟨hc, hf'⟩ := bcell (bdrewn hw'.out)
        go_simp
        exact hK _ _ ⟨rfl, Gr.refl _⟩
      refine ⟨opOK_rx [(14, some 2)] (by kernel_rfl) rfl ?_, ?_⟩
      · intro act w' hw' h1
        have hk : ∀ v, act.eval (.const v) = v := fun _ => rfl
        have hf : ∀ f, act.eval (.func f) = .func (.func f) #[] #[] := fun _ => rfl
        generalize act.eval = ρ at *
        replace h1 : ρ (.tmp 14) = .pointer (some ⟨w.heap.size, 2, none⟩) := h1
        refine gx_gen (fun K hK => ?_)
        obtain ⟨hc, hf'⟩ := bcell (bdrewn hw'.out)
        go_simp
        exact hK _ _ ⟨rfl, Gr.refl _⟩
      refine ⟨opOK_rx [(15, some 3)] (by kernel_rfl) rfl ?_, ?_⟩
      · intro act w' hw' h1
        have hk : ∀ v, act.eval (.const v) = v := fun _ => rfl
        have hf : ∀ f, act.eval (.func f) = .func (.func f) #[] #[] := fun _ => rfl
        generalize act.eval = ρ at *
        replace h1 : ρ (.tmp 15) = .slice A3 L3.length c3 := h1
        refine gx_gen (fun K hK => ?_)
        obtain ⟨hc, hf'⟩ := bcell (bdrewn hw'.out)
        go_simp
        (with_reducible refine (each_downW A3 c3 L3 _ (HV3.out.keep (bdrewn hw'.out)) (by omega) HSM.out).mono ?_); rintro e w1 ⟨rfl, hr1, hb1⟩; exact ⟨_, rfl, hK _ _ ⟨⟨_, _, by rw [List.length_map], hr1.v⟩, hb1⟩⟩
      refine ⟨opOK_rx [(13, some 1), (16, some 4)] (by kernel_rfl) rfl ?_, ?_⟩
      · intro act w' hw' h1 h2
        have hk : ∀ v, act.eval (.const v) = v := fun _ => rfl
        have hf : ∀ f, act.eval (.func f) = .func (.func f) #[] #[] := fun _ => rfl
        generalize act.eval = ρ at *
        replace h1 : ρ (.tmp 13) = .slice A2 L2.length c2 := h1
        replace h2 : (fun v w => SpR w v (L3.map dnM)) (ρ (.tmp 16)) w' := h2
        refine gx_gen (fun K hK => ?_)
        obtain ⟨hc, hf'⟩ := bcell (bdrewn hw'.out)
        go_simp
        obtain ⟨A, c, e, hs⟩ := h2; rw [e]; (with_reducible refine (lineRequests_w A2 c2 L2 A c (L3.map dnM) _ (HV2.out.keep (bdrewn hw'.out)) HS2.out hs HK2.out).mono ?_); rintro e w1 ⟨rfl, hr1, hb1⟩; exact ⟨_, rfl, hK _ _ ⟨⟨_, _, rfl, hr1.nv⟩, hb1⟩⟩
      refine ⟨opOK_rx [(17, some 5)] (by kernel_rfl) rfl ?_, ?_⟩
      · intro act w' hw' h1
        have hk : ∀ v, act.eval (.const v) = v := fun _ => rfl
        have hf : ∀ f, act.eval (.func f) = .func (.func f) #[] #[] := fun _ => rfl
        generalize act.eval = ρ at *
        replace h1 : (fun v w => NRz w v L2.length (wishM L2 (L3.map dnM))) (ρ (.tmp 17)) w' := h1
        refine gx_gen (fun K hK => ?_)
        obtain ⟨hc, hf'⟩ := bcell (bdrewn hw'.out)
        go_simp
        exact hK _ _ ⟨h1, Gr.refl _⟩
      exact trivial
    case hfin =>
      intro w2 hg2
      intro v12 t12
      replace t12 : v12 = .pointer (some ⟨w.heap.size, 1, none⟩) := t12
      subst t12
      intro v13 t13
      replace t13 : v13 = .slice A2 L2.length c2 := t13
      subst t13
      intro v14 t14
      replace t14 : v14 = .pointer (some ⟨w.heap.size, 2, none⟩) := t14
      subst t14
      intro v15 t15
      replace t15 : v15 = .slice A3 L3.length c3 := t15
      subst t15
      intro v16 t16
      replace t16 : (fun v w => SpR w v (L3.map dnM)) v16 w2 := t16
      intro v17 t17
      replace t17 : (fun v w => NRz w v L2.length (wishM L2 (L3.map dnM))) v17 w2 := t17
      intro v5 t5
      replace t5 : (fun v w => NRz w v L2.length (wishM L2 (L3.map dnM))) v5 w2 := t5
      have hb2 := bdrewn hg2.out
      clear hg2
      simp only [finP, Act.put, List.setIfInBounds_toArray, List.set_cons_succ, List.set_cons_zero]
      obtain ⟨B2, e2, rfl, hn2⟩ := t5
      clear t16 t17 d0 d1 d2 lx
      replace HX := Lib.hid ((hb2.block _ (Array.getElem?_eq_some_iff.1 HX.out).1).trans HX.out)
      replace HN1 := Lib.hid (HN1.out.keep hb2)
      replace HB := Lib.hid (bkeep2 HB.out hb2)
      clear hb2
      have HN2 := Lib.hid hn2
      clear hn2
      go_wp2_with fail
      with_reducible refine (sum_b B1 e1 L1.length _ _ HN1.out HL1.out.symm (by omega) HM1.out).mono ?_
      rintro e w3 ⟨rfl, hb3⟩
      replace HX := Lib.hid ((hb3.block _ (Array.getElem?_eq_some_iff.1 HX.out).1).trans HX.out)
      replace HN2 := Lib.hid (HN2.out.keep hb3)
      replace HB := Lib.hid (bkeep2 HB.out hb3)
      clear hb3
      go_wp2_with fail
      with_reducible refine (sum_b B2 e2 L2.length _ _ HN2.out HL2.out.symm (by omega) HM2.out).mono ?_
      rintro e w4 ⟨rfl, hb4⟩
      replace HX := Lib.hid ((hb4.block _ (Array.getElem?_eq_some_iff.1 HX.out).1).trans HX.out)
      replace HB := Lib.hid (bkeep2 HB.out hb4)
      clear hb4
      go_wp2
      exact bodyPost_ret (v := .tuple #[.int .i64 (sumI (wishM L1 (L3.map acM))), .int .i64 (sumI (wishM L2 (L3.map dnM)))]) (by simp only [results, Try.results112]; go_simp) rfl ⟨rfl, HB.out⟩
end Go.Proofs.Ytgdkionmeacalab
end
section
namespace Go.Proofs.Ytgdkionmeacalab
open Go.RowKit
set_option linter.unusedVariables false
set_option linter.unusedSimpArgs false
set_option maxHeartbeats 4000000
theorem pv_of {w : World} {A : Option Addr} {L : List Pk} (h : RvK 9 w A (L.map valsPk)) : PV w A L := ⟨fun h0 => by
  obtain ⟨b, off, e, hb, hp⟩ := h (by simpa using h0)
  refine ⟨b, off, e, hb, fun i p hi => ?_⟩
  have hr := hp i (valsPk p) (by rw [List.getElem?_map, hi]; rfl)
  exact ⟨hr 0 _ rfl, hr 1 _ rfl, hr 2 _ rfl, hr 3 _ rfl, hr 4 _ rfl, hr 5 _ rfl, hr 6 _ rfl, hr 7 _ rfl, hr 8 _ rfl⟩⟩
theorem cev_of {w : World} {A : Option Addr} {L : List Ce} (h : RvK 9 w A (L.map valsCe)) : CeV w A L := ⟨fun h0 => by
  obtain ⟨b, off, e, hb, hp⟩ := h (by simpa using h0)
  refine ⟨b, off, e, hb, fun i p hi => ?_⟩
  have hr := hp i (valsCe p) (by rw [List.getElem?_map, hi]; rfl)
  exact ⟨hr 0 _ rfl, hr 1 _ rfl, hr 2 _ rfl, hr 3 _ rfl, hr 4 _ rfl, hr 5 _ rfl, hr 6 _ rfl, hr 7 _ rfl, hr 8 _ rfl⟩⟩
set_option maxRecDepth 100000 in
theorem packReq_v (A : Option Addr) (c n : Nat) (L : List Pk) (ow oh : Int) (w : World) (h : PV w A L) (hn : n = L.length) (hok : ∀ p ∈ L, p.big) (h7 : L.length ≤ 10) :
    Calls Try.prog 124 #[.slice A n c, .agg (valsWi (ow, oh)).toArray] w fun e w' => e = .returned (.agg (valsWi (reqM L)).toArray) ∧ Below w.heap.size w w' := by
  subst hn
  have HV := Lib.hid h
  have HOK := Lib.hid hok
  clear h hok
  refine calls_abs Try.func124 rfl 10 (by simp only [Try.ntmps124]) (by simp) (fun t hsz hargs => ?_)
  have q0 : t[0]? = some (.slice A L.length c) := get_of (by omega) (hargs 0 _ rfl)
  have q1 : t[1]? = some (.agg (valsWi (ow, oh)).toArray) := get_of (by omega) (hargs 1 _ rfl)
  clear hargs
  obtain ⟨l0, e0⟩ := Array.getElem?_eq_some_iff.1 q0
  obtain ⟨l1, e1⟩ := Array.getElem?_eq_some_iff.1 q1
  refine wp_seq_h fun K hK => ?_
  apply wp_region_lit
  repeat (first | ((with_reducible show wpList _ _ _ _ _ _); refine allocK 61 2 rfl rfl infz_wish (fun z hz => ?_)) | go_step)
  refine hK.out _ _ ?_
  clear hK K
  refine wp_abw (fun t' W' => t'.size = 10 ∧ t'[0]? = some (.slice A L.length c) ∧ t'[4]? = some (.pointer (some ⟨w.heap.size + 1, 0, none⟩)) ∧ (∃ z : Array Value, W'.heap[w.heap.size + 1]? = some (.cells z 61 (0, 0)) ∧ z.size = 2) ∧ Below w.heap.size w W') ⟨by simp [Act.put, hsz], by simp [Act.put, q0], by simp [Act.put, hsz], ⟨⟨z, by have := newS (w.alloc (.cells (valsWi (ow, oh)).toArray 61)) (.cells z 61); simpa using this, hz⟩, (balloc (Below.refl _ _)).trans ((balloc (Below.refl _ _)).mono (by simp))⟩⟩ ?_
  clear hsz q0 l0 e0 q1 l1 e1 t z hz
  rintro t W1 ⟨hsz, q0, q4, ⟨z, H2, hz⟩, hB⟩
  have HB := Lib.hid hB
  replace HV := Lib.hid (HV.out.keep hB)
  have HX := Lib.hid H2
  clear hB H2
  obtain ⟨l0, e0⟩ := Array.getElem?_eq_some_iff.1 q0
  obtain ⟨l4, e4⟩ := Array.getElem?_eq_some_iff.1 q4
  refine wp_seq_h fun K hK => ?_
  apply wp_region_lit
  repeat go_step
  refine (packRequest_w A c L false _ HV.out HOK.out h7).mono ?_
  rintro e W2 ⟨rfl, hb2⟩
  dsimp only
  have HV2 := Lib.hid (HV.out.keep hb2)
  have HB2 := Lib.hid (bkeep2 HB.out hb2)
  have HX2 := Lib.hid ((hb2.block _ (ltS HX.out)).trans HX.out)
  clear hb2 HB HV HX
  repeat go_step
  refine (packRequest_w A c L true _ HV2.out HOK.out h7).mono ?_
  rintro e W3 ⟨rfl, hb3⟩
  dsimp only
  have HB := Lib.hid (bkeep2 HB2.out hb3)
  have HX := Lib.hid ((hb3.block _ (ltS HX2.out)).trans HX2.out)
  clear hb3 HB2 HV2 HX2
  have HTH := Lib.hid (show W3.there (w.heap.size + 1) 0 (valsWi (reqM L)).length from thereB HX.out (by rw [hz]; show 0 + 2 ≤ 2; omega))
  repeat (first | ((with_reducible show wpList _ _ _ _ _ _); refine stK 61 _ _ (valsWi (reqM L)) (w.heap.size + 1) 0 rfl rfl HTH.out inf_wish (valsWi_one _) (by simp [Act.eval, Act.put, hsz, e4]) (by simp [Act.eval, Act.put, hsz, valsWi, reqD]) ?_) | go_step)
  refine hK.out _ _ ?_
  clear hK K
  apply wp_ret
  refine bp_retcell 4 61 (w.heap.size + 1) (valsWi (reqM L)) Try.results124 ?_ (World.rangeAt_setCells_same _ _ _ _ HTH.out) Try.underlying61 rfl inf_wish rfl ⟨rfl, below_setCells (by omega) _ _ _ HB.out⟩
  simp [Act.put, hsz, e4]
set_option maxRecDepth 100000 in
theorem placeReq_v (v : Value) (ow oh : Int) (w : World) :
    Calls Try.prog 122 #[v, .agg (valsWi (ow, oh)).toArray] w fun e w' => e = .returned (.agg (valsWi (ow, oh)).toArray) ∧ Below w.heap.size w w' := by
  refine calls_abs Try.func122 rfl 6 (by simp only [Try.ntmps122]) (by simp) (fun t hsz hargs => ?_)
  have q1 : t[1]? = some (.agg (valsWi (ow, oh)).toArray) := get_of (by omega) (hargs 1 _ rfl)
  clear hargs
  obtain ⟨l1, e1⟩ := Array.getElem?_eq_some_iff.1 q1
  refine wp_seq_h fun K hK => ?_
  apply wp_region_lit
  repeat (first | ((with_reducible show wpList _ _ _ _ _ _); refine allocK 61 2 rfl rfl infz_wish (fun z hz => ?_)) | go_step)
  refine hK.out _ _ ?_
  clear hK K
  refine wp_abw (fun t' W' => t'.size = 6 ∧ t'[3]? = some (.pointer (some ⟨w.heap.size, 0, none⟩)) ∧ t'[4]? = some (.pointer (some ⟨w.heap.size + 1, 0, none⟩)) ∧ W'.heap[w.heap.size]? = some (.cells (valsWi (ow, oh)).toArray 61 (0, 0)) ∧ (∃ z : Array Value, W'.heap[w.heap.size + 1]? = some (.cells z 61 (0, 0)) ∧ z.size = 2) ∧ Below w.heap.size w W') ⟨by simp [Act.put, hsz], by simp [Act.put, hsz], by simp [Act.put, hsz], ⟨(Below.heap_alloc _ _ _ (by simp)).trans (newS _ _), ⟨z, by have := newS (w.alloc (.cells (valsWi (ow, oh)).toArray 61)) (.cells z 61); simpa using this, hz⟩, (balloc (Below.refl _ _)).trans ((balloc (Below.refl _ _)).mono (by simp))⟩⟩ ?_
  clear hsz q1 l1 e1 t z hz
  rintro t W1 ⟨hsz, q3, q4, H1, ⟨z, H2, hz⟩, hB⟩
  have HR := Lib.hid (show W1.rangeAt w.heap.size 0 (valsWi (ow, oh)) from fun j v hj => by rw [Nat.zero_add]; exact (cellS H1 j).trans (by simpa using hj))
  have HTH := Lib.hid (show W1.there (w.heap.size + 1) 0 (valsWi (ow, oh)).length from thereB H2 (by rw [hz]; show 0 + 2 ≤ 2; omega))
  have HB := Lib.hid hB
  clear H1 H2 hB
  obtain ⟨l3, e3⟩ := Array.getElem?_eq_some_iff.1 q3
  obtain ⟨l4, e4⟩ := Array.getElem?_eq_some_iff.1 q4
  refine wp_seq_h fun K hK => ?_
  apply wp_region_lit
  repeat (first | ((with_reducible show wpList _ _ _ _ _ _); refine ldK 61 _ (valsWi (ow, oh)) w.heap.size 0 rfl rfl HR.out Try.underlying61 rfl inf_wish (by simp [Act.eval, Act.put, hsz, e3]) ?_) | ((with_reducible show wpList _ _ _ _ _ _); refine stK 61 _ _ (valsWi (ow, oh)) (w.heap.size + 1) 0 rfl rfl HTH.out inf_wish (valsWi_one _) (by simp [Act.eval, Act.put, hsz, e4]) (by simp [Act.eval, Act.put, hsz]) ?_) | go_step)
  refine hK.out _ _ ?_
  clear hK K
  apply wp_ret
  refine bp_retcell 4 61 (w.heap.size + 1) (valsWi (ow, oh)) Try.results122 ?_ (World.rangeAt_setCells_same _ _ _ _ HTH.out) Try.underlying61 rfl inf_wish rfl ⟨rfl, below_setCells (by omega) _ _ _ HB.out⟩
  simp [Act.put, hsz, e4]
def gridM (L1 L2 : List Ln) (L3 : List Ce) : Int × Int := (sumI (wishM L1 (L3.map acM)), sumI (wishM L2 (L3.map dnM)))
set_option maxRecDepth 100000 in
theorem gridReq_v (A1 : Option Addr) (c1 : Nat) (L1 : List Ln) (A2 : Option Addr) (c2 : Nat) (L2 : List Ln) (A3 : Option Addr) (c3 n3 : Nat) (L3 : List Ce) (ow oh : Int) (w : World) (h1 : LnV w A1 L1) (h2 : LnV w A2 L2) (h3 : CeV w A3 L3) (hn : n3 = L3.length) (v1 : linesB L1 = true) (v2 : linesB L2 = true) (hl8 : L3.length ≤ 10) (hsm : ∀ p ∈ L3, smW p) (hs1 : spansW L1.length (L3.map acM)) (hs2 : spansW L2.length (L3.map dnM)) :
    Calls Try.prog 111 #[.agg #[.slice A1 L1.length c1, .slice A2 L2.length c2, .slice A3 n3 c3], .agg (valsWi (ow, oh)).toArray] w fun e w' => e = .returned (.agg (valsWi (gridM L1 L2 L3)).toArray) ∧ Below w.heap.size w w' := by
  subst hn
  have HG := Lib.hid (fun W hb => gridRequest_w A1 c1 L1 A2 c2 L2 A3 c3 L3 W (h1.keep hb) (h2.keep hb) (h3.keep hb) v1 v2 hl8 hsm hs1 hs2)
  clear h1 h2 h3 v1 v2 hl8 hsm hs1 hs2
  refine calls_abs Try.func111 rfl 15 (by simp only [Try.ntmps111]) (by simp) (fun t hsz hargs => ?_)
  have q0 : t[0]? = some (.agg #[.slice A1 L1.length c1, .slice A2 L2.length c2, .slice A3 L3.length c3]) := get_of (by omega) (hargs 0 _ rfl)
  have q1 : t[1]? = some (.agg (valsWi (ow, oh)).toArray) := get_of (by omega) (hargs 1 _ rfl)
  clear hargs
  obtain ⟨l0, e0⟩ := Array.getElem?_eq_some_iff.1 q0
  obtain ⟨l1, e1⟩ := Array.getElem?_eq_some_iff.1 q1
  refine wp_seq_h fun K hK => ?_
  apply wp_region_lit
  repeat (first | ((with_reducible show wpList _ _ _ _ _ _); refine allocK 61 2 rfl rfl infz_wish (fun z hz => ?_)) | go_step)
  refine hK.out _ _ ?_
  clear hK K
  refine wp_abw (fun t' W' => t'.size = 15 ∧ t'[2]? = some (.pointer (some ⟨w.heap.size, 0, none⟩)) ∧ t'[4]? = some (.pointer (some ⟨w.heap.size + 2, 0, none⟩)) ∧ W'.heap[w.heap.size]? = some (.cells #[.slice A1 L1.length c1, .slice A2 L2.length c2, .slice A3 L3.length c3] 118 (0, 0)) ∧ (∃ z : Array Value, W'.heap[w.heap.size + 2]? = some (.cells z 61 (0, 0)) ∧ z.size = 2) ∧ Below w.heap.size w W') ⟨by simp [Act.put, hsz], by simp [Act.put, hsz], by simp [Act.put, hsz], ⟨(Below.heap_alloc _ _ _ (by simp; omega)).trans ((Below.heap_alloc _ _ _ (by simp)).trans (newS _ _)), ⟨z, by have := newS ((w.alloc (.cells #[.slice A1 L1.length c1, .slice A2 L2.length c2, .slice A3 L3.length c3] 118)).alloc (.cells (valsWi (ow, oh)).toArray 61)) (.cells z 61); simpa using this, hz⟩, (((Below.refl _ w).alloc (Nat.le_refl _) _).alloc (by simp) _).alloc (by simp; omega) _⟩⟩ ?_
  clear hsz q0 l0 e0 q1 l1 e1 t z hz
  rintro t W1 ⟨hsz, q2, q4, H1, ⟨z, H2, hz⟩, hB⟩
  have HB := Lib.hid hB
  have HX := Lib.hid H2
  have HR := Lib.hid (show W1.rangeAt w.heap.size 0 [.slice A1 L1.length c1, .slice A2 L2.length c2, .slice A3 L3.length c3] from fun j v hj => by rw [Nat.zero_add]; exact (cellS H1 j).trans (by simpa using hj))
  clear hB H2 H1
  obtain ⟨l2, e2⟩ := Array.getElem?_eq_some_iff.1 q2
  obtain ⟨l4, e4⟩ := Array.getElem?_eq_some_iff.1 q4
  refine wp_seq_h fun K hK => ?_
  apply wp_region_lit
  repeat (first | ((with_reducible show wpList _ _ _ _ _ _); refine ldK 118 _ [.slice A1 L1.length c1, .slice A2 L2.length c2, .slice A3 L3.length c3] w.heap.size 0 rfl rfl HR.out Try.underlying118 rfl (by kernel_rfl) (by simp [Act.eval, Act.put, hsz, e2]) ?_) | go_step)
  refine (HG.out _ HB.out).mono ?_
  rintro e W2 ⟨rfl, hb2⟩
  dsimp only
  replace HB := Lib.hid (bkeep2 HB.out hb2)
  replace HX := Lib.hid ((hb2.block _ (ltS HX.out)).trans HX.out)
  clear hb2 HR
  repeat go_step
  refine hK.out _ _ ?_
  clear hK K
  refine wp_abw (fun t' W' => t'.size = 15 ∧ t'[4]? = some (.pointer (some ⟨w.heap.size + 2, 0, none⟩)) ∧ t'[5]? = some (.int .i64 (gridM L1 L2 L3).1) ∧ t'[6]? = some (.int .i64 (gridM L1 L2 L3).2) ∧ W2 = W') ⟨by simp [Act.put, hsz], by simp [Act.put, q4], by simp [Act.put, hsz, gridM], by simp [Act.put, hsz, gridM], rfl⟩ ?_
  clear hsz q2 l2 e2 q4 l4 e4 t 
  rintro t _ ⟨hsz, q4, q5, q6, rfl⟩
  have HTH := Lib.hid (show W2.there (w.heap.size + 2) 0 (valsWi (gridM L1 L2 L3)).length from thereB HX.out (by rw [hz]; show 0 + 2 ≤ 2; omega))
  obtain ⟨l4, e4⟩ := Array.getElem?_eq_some_iff.1 q4
  obtain ⟨l5, e5⟩ := Array.getElem?_eq_some_iff.1 q5
  obtain ⟨l6, e6⟩ := Array.getElem?_eq_some_iff.1 q6
  refine wp_seq_h fun K hK => ?_
  apply wp_region_lit
  repeat (first | ((with_reducible show wpList _ _ _ _ _ _); refine stK 61 _ _ (valsWi (gridM L1 L2 L3)) (w.heap.size + 2) 0 rfl rfl HTH.out inf_wish (valsWi_one _) (by simp [Act.eval, Act.put, hsz, e4]) (by simp [Act.eval, Act.put, hsz, valsWi]) ?_) | go_step)
  refine hK.out _ _ ?_
  clear hK K
  apply wp_ret
  refine bp_retcell 4 61 (w.heap.size + 2) (valsWi (gridM L1 L2 L3)) Try.results111 ?_ (World.rangeAt_setCells_same _ _ _ _ HTH.out) Try.underlying61 rfl inf_wish rfl ⟨rfl, below_setCells (by omega) _ _ _ HB.out⟩
  simp [Act.put, hsz, e4]
end Go.Proofs.Ytgdkionmeacalab
end
section
namespace Go.Proofs.Ytgdkionmeacalab
open Go.RowKit
set_option linter.unusedVariables false
set_option maxHeartbeats 4000000
attribute [local go_sem 5000] run_mx run_mn
attribute [local go_sem] Oper.semAt_some
theorem ldNI {F : Fence} {n : Nat} {P : Program} {ops : Array Oper} {rest : List Oper} {op : Oper} {a : Act} {w : World} {Q : Exit → Act → World → Prop} (T : TypeId) (x : Operand) (vs : List Value) (b o : Nat) {d : TypeDesc} (hgd : op.guard = none) (ho : op.op = .load T x) (hx : a.eval x = .pointer (some ⟨b, o, none⟩))
    (hc : w.rangeAt b o vs) (hu : P.underlying T = some d) (hd : d.isRow = true) (hi : (P.info? T).map (·.size) = some vs.length)
    (h : wpListIn F n P ops Q rest (a.put op.dst (.agg vs.toArray)) w) : wpListIn F n P ops Q (op :: rest) a w := by
  refine wpListIn_plain hgd fun K hK => ⟨fun f hf => ?_, ?_⟩
  · simp [Oper.about, ho] at hf
  · rw [Oper.semAt_eq _ _ _ (fun c e => by rw [ho] at e; cases e)]
    unfold execOp
    simp only [ho, hx, Instr.loadAt, Instr.sureAddr, Sem.run_bind, Sem.run_pure, Result.andThen_ok, run_loadVar_mid w b o T vs d hc hu hd hi]
    exact hK _ _ h
/-- what comes: an index, and a node -/
structure BkN where
  i : Nat
  p : Nr
def encN (x : BkN) : Array Value := #[.int .i64 (x.i : Int), .agg (valsNr x.p).toArray]
def NrVn (n0 : Nat) (W : World) (A : Option Addr) (R : List Nr) : Prop := 0 < R.length → ∃ b off, A = some ⟨b, off, none⟩ ∧ b < n0 ∧ ∀ i p, R[i]? = some p → W.rangeAt b (off + i * 34) (valsNr p)
theorem NrVn.below {n0 : Nat} {W W' : World} {A : Option Addr} {R : List Nr} (h : NrVn n0 W A R) (hb : Below n0 W W') : NrVn n0 W' A R := fun h0 =>
  let ⟨b, off, e, hl, hp⟩ := h h0; ⟨b, off, e, hl, fun i p hi => rangeB (hp i p hi) (hb.block b hl)⟩
/-- what has come are the last ones, the last one first -/
def BkS (R : List Nr) (k : Nat) (ys : List BkN) : Prop := ys.length = R.length - k ∧ ∀ (m : Nat) (y : BkN), ys[m]? = some y → y.i = R.length - 1 - m ∧ R[y.i]? = some y.p
theorem BkS.snoc {R : List Nr} {j : Nat} {ys : List BkN} {p : Nr} (h : BkS R (j + 1) ys) (hp : R[j]? = some p) : BkS R j (ys ++ [⟨j, p⟩]) := by
  have hj := (List.getElem?_eq_some_iff.1 hp).1
  refine ⟨by rw [List.length_append, h.1]; simp; omega, fun m y hy => ?_⟩
  by_cases e : m < ys.length
  · rw [List.getElem?_append_left e] at hy
    exact h.2 m y hy
  · rw [List.getElem?_append_right (by omega)] at hy
    have hm := (List.getElem?_eq_some_iff.1 hy).1
    simp at hm
    have : m = ys.length := by omega
    subst this
    simp at hy
    subst hy
    exact ⟨by rw [h.1]; dsimp only; omega, hp⟩
set_option maxRecDepth 100000 in
theorem backwardN_in (F : Fence) (n : Nat) (hF : F.fn 55) (hro : F.round = none) (a : Option Addr) (len cap : Nat) (w : World) :
    CallsIn F n Try.prog 55 #[.slice a len cap] w fun e w' => e = .returned (.func (.func 73) #[] #[.pointer (some ⟨w.heap.size, 0, none⟩)]) ∧ w' = w.alloc (.cells #[.slice a len cap] 23) := by
  refine callsIn_of_wp Try.func55 rfl hF ?_ hro
  simp only [Try.ntmps55, List.size_toArray, List.length_cons, List.length_nil, Nat.reduceAdd, Nat.reduceSub, Array.replicate_succ, Array.replicate_zero, List.push_toArray, List.append_toArray, List.nil_append, List.cons_append]
  gi_wp2
  go_ret
  exact ⟨rfl, rfl⟩
end Go.Proofs.Ytgdkionmeacalab
end
section
namespace Go.Proofs.Ytgdkionmeacalab
open Go Go.RowKit
set_option linter.unusedVariables false
/-- below B all stands, and every block of cells stands -/
def KeepsC (B : Nat) (W W' : World) : Prop := Below B W W' ∧ ∀ (k : Nat) (o : Obj), W.heap[k]? = some o → o.isCells = true → W'.heap[k]? = some o
theorem keepsC_alloc {B : Nat} {W : World} (o : Obj) (h : B ≤ W.heap.size) : KeepsC B W (W.alloc o) :=
  ⟨(Below.refl _ _).alloc h o, fun k o' hk _ => (Below.heap_alloc _ _ _ (Array.getElem?_eq_some_iff.1 hk).1).trans hk⟩
theorem keepsC_put {w W : World} {l : Nat} {o o' : Obj} (hl : w.heap.size ≤ l) (h : W.heap[l]? = some o) (hc : o.isCells = false) (hw : o.isWalk = false) : KeepsC w.heap.size W (W.putObj l o') :=
  ⟨belowK_b (w := w) (Nat.le_refl _) W l o o' hl h hc hw, fun k o2 hk h2 => by
    by_cases e : k = l
    · subst e
      rw [h] at hk
      obtain rfl := Option.some.inj hk
      rw [hc] at h2
      cases h2
    · exact (World.putObj_heap_other e).trans hk⟩
theorem KeepsC.trans {B : Nat} {W1 W2 W3 : World} (h : KeepsC B W1 W2) (k : KeepsC B W2 W3) : KeepsC B W1 W3 := ⟨h.1.trans k.1, fun i o hi hc => k.2 i o (h.2 i o hi hc) hc⟩
theorem KeepsC.cells {B k : Nat} {W W' : World} {cs : Array Value} {T : TypeId} {fz : Nat × Nat} (h : KeepsC B W W') (hk : W.heap[k]? = some (.cells cs T fz)) : W'.heap[k]? = some (.cells cs T fz) := h.2 k _ hk rfl
theorem KeepsC.block {B k : Nat} {W W' : World} {cs : Array Value} {T : TypeId} {fz : Nat × Nat} (h : KeepsC B W W') (hk : W.heap[k]? = some (.cells cs T fz)) : W'.heap[k]? = W.heap[k]? := (h.cells hk).trans hk.symm
/-- an iterator that yields enc 0, enc 1, .. up to N of them, where the world is as Nd says -/
def SeqCnt (F : Fence) (n : Nat) (P : Program) (g : Nat) (lb : Array Value) (enc : Nat → Array Value) (Nd : World → Prop) (N : Nat) : Prop :=
  ∀ (l : Nat) (J : Nat → World → Prop) (W : World),
    (∀ k W1, k < N → J k W1 → YieldAt F (n - 1) P l (enc k) W1 fun e W' => e = .returned (.bool true) ∧ J (k + 1) W') →
    (∀ k W1, J k W1 → Nd W1) → J 0 W → CallsIn F n P g (#[.func (.yield l) #[] #[]] ++ lb) W fun e W' => (∃ v, e = .returned v) ∧ J N W'
/-- a range over such an iterator whose body always goes on: the invariant is told by the count of rounds -/
theorem wpIn_rangeFunc_cnt {F : Fence} {n : Nat} {P : Program} {g : Operand} {ps : Array Tmp} {assign body : Code} {Q : Exit → Act → World → Prop} {a : Act} {w : World}
    (hro : F.round = none) (h1 : 1 ≤ n) {gf : Nat} {lb : Array Value} (hg : a.eval g = .func (.func gf) #[] lb) (hFg : F.fn gf) (eg : ∀ args w, (callFunc gf args).run P w = .ok (.enter gf args) w)
    {enc : Nat → Array Value} {Nd : World → Prop} {N : Nat} (hseq : SeqCnt F (n - 1) P gf lb enc Nd N) (hps : ∀ k, (enc k).size = ps.size)
    (I : Nat → World → Prop) (hI : ∀ k W W', I k W → KeepsC w.heap.size W W' → I k W') (hN : ∀ k W, I k W → Nd W) (h0 : I 0 w)
    (Ax : Nat → Act → World → Prop) (hAx : ∀ k a' W W', Ax k a' W → KeepsC w.heap.size W W' → Ax k a' W')
    (hassign : ∀ (l k : Nat) (W : World) (K : Act → World → Prop), k < N → I k W → (∀ a' W', KeepsFrom w.heap.size W W' → I k W' → Ax k a' W' → K a' W') →
      assign.wpIn (F.inRound l) (n - 1 - 1) P (Exit.then K (fun _ _ _ => False)) { tmps := (ps.zip (enc k)).foldl (fun t (p, v) => t.setIfInBounds p v) a.tmps, defers := [] } W)
    (hbody : ∀ (l k : Nat) (a' : Act) (W : World), k < N → I k W → Ax k a' W → body.wpIn (F.inRound l) (n - 1 - 1) P (fun e _ W' => e = .normal ∧ KeepsFrom w.heap.size W W' ∧ I (k + 1) W') a' W)
    (hdone : ∀ (D : Nat) (W : World), w.heap.size ≤ D → I N W → W.heap[D]? = some (.deferred (some [])) → Q .normal { a with defers := { target := .collected D, args := #[] } :: a.defers } W) :
    (Code.rangeFunc g ps assign body).wpIn F n P Q a w := by
  refine wpIn_rangeFunc fun fn hfn => ?_
  rw [hro]
  obtain ⟨mk, hmk⟩ : ∃ mk : LoopState → Loop, ∀ st, mk st = { state := st, pending := none, fn, tmps := a.tmps, params := ps, assign, body, defers := w.heap.size } := ⟨_, fun _ => rfl⟩
  obtain ⟨Bk, hBk⟩ : ∃ Bk : LoopState → World → Prop, ∀ st W, Bk st W ↔ W.heap[w.heap.size + 1]? = some (.loop (mk st)) ∧ W.heap[w.heap.size]? = some (.deferred (some [])) := ⟨_, fun _ _ => Iff.rfl⟩
  have keep : ∀ st W W', Bk st W → KeepsFrom w.heap.size W W' → Bk st W' := fun st W W' hb hk => by
    rw [hBk] at hb ⊢
    exact ⟨hk.same _ _ (by omega) hb.1 rfl, hk.same _ _ (Nat.le_refl _) hb.2 rfl⟩
  have turn : ∀ st st' W, Bk st W → Bk st' (W.putObj (w.heap.size + 1) (.loop (mk st'))) ∧ KeepsC w.heap.size W (W.putObj (w.heap.size + 1) (.loop (mk st'))) := fun st st' W hb => by
    rw [hBk] at hb ⊢
    exact ⟨⟨World.putObj_heap_same (Array.getElem?_eq_some_iff.1 hb.1).1, (World.putObj_heap_other (by omega)).trans hb.2⟩, keepsC_put (by omega) hb.1 rfl rfl⟩
  obtain ⟨W1, hW1⟩ : ∃ W1, (w.alloc (.deferred (some []))).alloc (.loop (mk .ready)) = W1 := ⟨_, rfl⟩
  have b1 : Bk .ready W1 := by
    rw [hBk, ← hW1]
    refine ⟨?_, (Below.heap_alloc _ _ _ (by simp)).trans (World.alloc_heap_new w _)⟩
    have := World.alloc_heap_new (w.alloc (.deferred (some []))) (.loop (mk .ready))
    rwa [World.size_alloc] at this
  have i1 : I 0 W1 := by
    rw [← hW1]
    exact hI _ _ _ (hI _ _ _ h0 (keepsC_alloc _ (Nat.le_refl _))) (keepsC_alloc _ (by simp))
  refine ⟨w.heap.size + 1, [{ target := .collected w.heap.size, args := #[] }], W1, { target := .fn (.func gf) lb, args := #[.func (.yield (w.heap.size + 1)) #[] #[]] }, W1, gf,
    #[.func (.yield (w.heap.size + 1)) #[] #[]] ++ lb, W1, ?_, ?_, ?_, ?_, fun _ => h1, ?_⟩
  · rw [← hW1, hmk]; exact run_enterLoop_outer _ _ _ _ _
  · simp only [resolve, hg]
    simp [go_sem]
  · intro f' hf'
    simp [Target.leads] at hf'
    subst hf'
    exact hFg
  · simp [invoke, go_sem, eg]
  · refine (hseq (w.heap.size + 1) (fun k W => I k W ∧ Bk .ready W) W1 ?_ (fun k W h => hN k W h.1) ⟨i1, b1⟩).mono ?_
    · rintro k W hk ⟨hi, hb⟩
      have hl := ((hBk _ _).1 hb).1
      have hy := run_yield (P := P) (args := enc k) hl (by rw [hmk]; exact hps k)
      rw [hmk] at hy
      refine ⟨fn, _, assign, body, hy, roundIn_of_wpIn hfn (hassign _ k W _ hk hi ?_)⟩
      intro a' Wa hka hia hax
      have hba := keep _ _ _ hb hka
      have hla := ((hBk _ _).1 hba).1
      have hbr := run_beginRound (P := P) hla (by rw [hmk])
      rw [show ({ mk .ready with state := .busy } : Loop) = mk .busy by rw [hmk, hmk]] at hbr
      obtain ⟨hbb, hcb⟩ := turn _ .busy _ hba
      refine ⟨_, hbr, wpIn_mono (hbody _ k a' _ hk (hI _ _ _ hia hcb) (hAx _ _ _ _ hax hcb)) ?_⟩
      rintro e a3 W3 ⟨rfl, hk3, hi3⟩
      have hb3 := keep _ _ _ hbb hk3
      have her := run_endRound (P := P) none ((hBk _ _).1 hb3).1
      rw [show ({ mk .busy with state := if (none : Option Code).isNone then .ready else .done, pending := none } : Loop) = mk .ready by rw [hmk, hmk]; rfl] at her
      obtain ⟨hb4, hc4⟩ := turn _ .ready _ hb3
      exact ⟨_, _, her, rfl, hI _ _ _ hi3 hc4, hb4⟩
    · rintro e W2 ⟨⟨v, rfl⟩, hi, hb⟩
      have hl := ((hBk _ _).1 hb).1
      have hel := run_endLoop (P := P) hl (by rw [hmk]; simp)
      rw [show (mk .ready).pending = none by rw [hmk]] at hel
      exact ⟨none, _, hel, hdone _ _ (Nat.le_refl _) (hI _ _ _ hi (keepsC_put (by omega) hl rfl rfl)) ((World.putObj_heap_other (by omega)).trans ((hBk _ _).1 hb).2)⟩
end Go.Proofs.Ytgdkionmeacalab
end
section
namespace Go.Proofs.Ytgdkionmeacalab
open Go Go.RowKit
set_option linter.unusedVariables false
set_option maxHeartbeats 4000000
attribute [local go_sem] Oper.semAt_some
def zeroNr : Nr := ⟨⟨0, 0, 0, false, 0, [], [], ⟨0, 0, 0, false, false, false, 0, 0, 0⟩, ⟨0, 0, 0, 0, 0, 0, 0, 0, 0⟩, ⟨0, 0, 0, 0, 0, 0, 0, 0, 0⟩⟩, none, 0, none, 0⟩
def nrAt (R : List Nr) (i : Nat) : Nr := (R[i]?).getD zeroNr
theorem nrAt_get {R : List Nr} {i : Nat} {p : Nr} (h : R[i]? = some p) : nrAt R i = p := by unfold nrAt; rw [h]; rfl
/-- what the k-th round from the end gets -/
def encR (R : List Nr) (k : Nat) : Array Value := #[.int .i64 ((R.length - 1 - k : Nat) : Int), .agg (valsNr (nrAt R (R.length - 1 - k))).toArray]
theorem encR_at {R : List Nr} {j : Nat} {p : Nr} (h : R[j]? = some p) : encR R (R.length - (j + 1)) = #[.int .i64 (j : Int), .agg (valsNr p).toArray] := by
  have hj := (List.getElem?_eq_some_iff.1 h).1
  unfold encR
  rw [show R.length - 1 - (R.length - (j + 1)) = j by omega, nrAt_get h]
set_option maxRecDepth 100000 in
theorem bkc_in (F : Fence) (n : Nat) (hF : F.fn 73) (hro : F.round = none) (hn : 1 ≤ n) (Bs : Nat) (A : Option Addr) (c : Nat) (R : List Nr) (hL : R.length ≤ 1048576) :
    SeqCnt F n Try.prog 73 #[.pointer (some ⟨Bs, 0, none⟩)] (encR R) (fun W => W.cell? ⟨Bs, 0, none⟩ = some (.slice A R.length c) ∧ NrV W A R) R.length := by
  intro l J W hY hJN h0
  have hcs := (hJN _ _ h0).1
  refine callsIn_of_wp Try.func73 rfl hF ?_ hro
  simp only [Try.ntmps73, List.size_toArray, List.length_cons, List.length_nil, Nat.reduceAdd, Nat.reduceSub, Array.replicate_succ, Array.replicate_zero, List.push_toArray, List.append_toArray, List.nil_append, List.cons_append]
  gi_wp2
  clear hcs
  gi_loopw [3] (fun i wr => ∃ k : Nat, k ≤ R.length ∧ i = .int .i64 ((k : Int) - 1) ∧ J (R.length - k) wr)
    (fun i _ => (intOf i + 1).toNat)
  case atStart => exact ⟨R.length, Nat.le_refl _, rfl, by rw [Nat.sub_self]; exact h0⟩
  case round =>
    obtain ⟨k, hk, rfl, hJs⟩ := hrel
    rcases k with _ | j
    · have hd : decide (((0 : Nat) : Int) - 1 ≥ 0) = false := by simp
      gi_wp2
      go_end0
      exact ⟨⟨_, rfl⟩, hJs⟩
    · have e1 : ((j + 1 : Nat) : Int) - 1 = (j : Int) := by omega
      rw [e1]
      have hlt : j < R.length := by omega
      have hd : decide ((j : Int) ≥ 0) = true := by simp
      have hd2 : decide ((0 : Int) ≤ (j : Int)) = true := by simp
      obtain ⟨hcs, hp⟩ := hJN _ _ hJs
      obtain ⟨b, off, rfl, hb, hps⟩ := hp.cells (by omega)
      have hget : R[j]? = some R[j] := List.getElem?_eq_getElem hlt
      have hc := hps j _ hget
      have he := encR_at hget
      generalize hx : R[j] = p at *
      obtain ⟨fn, tmps, assign, body, hy, hR⟩ := hY (R.length - (j + 1)) wr (by omega) hJs
      rw [he] at hy
      have HC := Lib.hid hc
      have HE : Hid (R.length - (j + 1) + 1 = R.length - j) := Lib.hid (by omega)
      clear hc hget hx hps e1 hp he
      have hjs : IntKind.i64.wrap ((j : Int) - 1) = (j : Int) - 1 := IntWalk.i64_in _ (by omega)
      gi_wp2_with (refine ldNI 39 _ (valsNr p) b (off + j * 34) rfl rfl rfl HC.out Try.underlying39 rfl (by rw [valsNr_len]; kernel_rfl) ?_)
      refine hR.mono ?_
      rintro e W3 ⟨rfl, hJ3⟩
      rw [HE.out] at hJ3
      gi_wp2
      go_roundw
      case rel => exact ⟨j, by omega, by go_num, hJ3⟩
      case measure => simp [intOf]
end Go.Proofs.Ytgdkionmeacalab
end
