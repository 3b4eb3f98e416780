import Derived.Test.YtnkoeekgdehhiaaPO
import Derived.Test.YtnkoeekgdehhiaaPE
namespace Go.Proofs.Ytnkoeekgdehhiaa
open Go.RowKit
set_option linter.unusedVariables false
set_option maxHeartbeats 1000000
attribute [local go_sem] growUpon_value growUpon_skip growUpon_enter
theorem rvals_get : ∀ {M : List Rc} {i : Nat} {r : Rc}, M[i]? = some r → ∀ j, j < 4 → (rvals M)[i * 4 + j]? = (vals4 r)[j]?
  | [], i, r, h, _, _ => by simp at h
  | q :: t, 0, r, h, j, hj => by
    simp at h; subst h
    show (vals4 q ++ rvals t)[0 * 4 + j]? = _
    rw [List.getElem?_append_left (by simp [vals4]; omega)]; simp
  | q :: t, i + 1, r, h, j, hj => by
    show (vals4 q ++ rvals t)[(i + 1) * 4 + j]? = _
    rw [List.getElem?_append_right (by simp [vals4]; omega)]
    have := rvals_get (M := t) (i := i) (r := r) (by simpa using h) j hj
    rw [← this]; congr 1; simp [vals4]; omega
/-- the value reads as the list -/
def RV (w : World) (v : Value) (M : List Rc) : Prop := ∃ A c, v = .slice A M.length c ∧ (0 < M.length → ∃ b, A = some ⟨b, 0, none⟩ ∧ b < w.heap.size ∧ ∀ i r, M[i]? = some r → Cells4 w b (i * 4) r)
theorem Cells4.at {w w' : World} {b o : Nat} {r : Rc} (h : Cells4 w b o r) (hb : w'.heap[b]? = w.heap[b]?) : Cells4 w' b o r := by
  have e : ∀ i, w'.cell? ⟨b, i, none⟩ = w.cell? ⟨b, i, none⟩ := fun i => World.cell?_of_block hb
  obtain ⟨h0, h1, h2, h3⟩ := h
  exact ⟨(e _).trans h0, (e _).trans h1, (e _).trans h2, (e _).trans h3⟩
theorem RV.keep {w w' : World} {v : Value} {M : List Rc} (h : RV w v M) (hb : Below w.heap.size w w') : RV w' v M := by
  obtain ⟨A, c, e, h⟩ := h
  exact ⟨A, c, e, fun h0 => let ⟨b, e1, h1, h2⟩ := h h0; ⟨b, e1, Nat.lt_of_lt_of_le h1 hb.size, fun i r hr => (h2 i r hr).at (hb.block b h1)⟩⟩
theorem RV.nil (w : World) : RV w (.slice none 0 0) [] := ⟨none, 0, rfl, fun h => absurd h (by simp)⟩
theorem RV.own {w : World} {base n : Nat} {v : Value} {M : List Rc} {T : TypeId} (h : w.ownsRow base T 4 v n (rvals M)) (hn : n = M.length) : RV w v M := by
  subst hn
  have hl := h.lt
  have hc := fun g hg => h.cells (g := g) hg
  rcases h.2 with ⟨rfl, h0⟩ | ⟨g, cap, cur, rfl, _⟩
  · exact ⟨none, 0, by rw [h0], fun h => absurd h (by omega)⟩
  · refine ⟨_, cap, rfl, fun _ => ⟨g, rfl, (hl g rfl).2, fun i r hr => ?_⟩⟩
    have e : ∀ j, j < 4 → ∀ u, (vals4 r)[j]? = some u → w.cell? ⟨g, i * 4 + j, none⟩ = some u := fun j hj u hu => by
      have h1 := hc g rfl (i * 4 + j) u ((rvals_get hr j hj).trans hu)
      have hadd : (⟨g, 0, none⟩ : Addr).add (i * 4 + j) = ⟨g, i * 4 + j, none⟩ := by unfold Addr.add; split <;> simp_all
      rwa [hadd] at h1
    exact ⟨e 0 (by omega) _ rfl, e 1 (by omega) _ rfl, e 2 (by omega) _ rfl, e 3 (by omega) _ rfl⟩
theorem RV.blk {w : World} {g n : Nat} {M : List Rc} (h : Blk4 w g M) (hn : n = M.length) (m : Nat) : RV w (.slice (some ⟨g, 0, none⟩) n m) M := by
  subst hn
  obtain ⟨cs, hh, hs, hc⟩ := h
  exact ⟨_, m, rfl, fun _ => ⟨g, rfl, (Array.getElem?_eq_some_iff.1 hh).1, fun i r hr => (hc i r hr).cells hh⟩⟩
set_option maxRecDepth 100000 in
theorem eqRect_sameP (r : Rc) (w : World) : Calls Try.prog 22 #[.agg #[.int .i64 (r.x), .int .i64 (r.y), .int .i64 (r.u), .int .i64 (r.v)], .agg #[.int .i64 (r.x), .int .i64 (r.y), .int .i64 (r.u), .int .i64 (r.v)]] w fun e w' => e = .returned (.bool true) ∧ Below w.heap.size w w' := by
  go_enter Try.func22, Try.ntmps22
  go_wp2
  go_ret
  exact ⟨rfl, balloc (balloc (Below.refl _ _))⟩
set_option maxRecDepth 100000 in
theorem eqRectS_same (v v' : Value) (M : List Rc) (w : World) (h : RV w v M) (h' : RV w v' M) (hM : M.length ≤ 7) :
    Calls Try.prog 16 #[v, v'] w fun e w' => e = .returned (.bool true) ∧ Below w.heap.size w w' := by
  obtain ⟨A, c, rfl, h⟩ := h
  obtain ⟨B, c', rfl, h'⟩ := h'
  go_enter Try.func16, Try.ntmps16
  go_wp2_with fail
  go_loopw [5] (fun i wr => ∃ k : Nat, k ≤ M.length ∧ i = .int .i64 k ∧ Below w.heap.size w wr) (fun i _ => M.length - (intOf i).toNat)
  case atStart => exact ⟨0, by omega, rfl, Below.refl _ _⟩
  case round =>
    obtain ⟨k, hk, rfl, hB⟩ := hrel
    by_cases hlt : k < M.length
    · have hd : decide ((k : Int) < (M.length : Int)) = true := by simpa using hlt
      obtain ⟨b, rfl, hb, hp⟩ := h (by omega)
      obtain ⟨b', rfl, hb', hp'⟩ := h' (by omega)
      obtain ⟨c0, c1, c2, c3⟩ := (hp k _ (List.getElem?_eq_getElem hlt)).at (hB.block b hb)
      obtain ⟨d0, d1, d2, d3⟩ := (hp' k _ (List.getElem?_eq_getElem hlt)).at (hB.block b' hb')
      generalize hx : M[k] = r at *
      have HX := Lib.hid hx
      have HP := Lib.hid hp
      have HP' := Lib.hid hp'
      have HBB := Lib.hid hB
      have HH := Lib.hid h
      have HH' := Lib.hid h'
      clear hx hp hp' hB h h'
      go_wp2_with fail
      refine wp_region_grow 10 0 (· < 10) (by kernel_rfl) (by kernel_rfl) rfl ?_
      iterate 10 (refine wpG_step (fun K hK => ?_); apply Exists.intro; refine ⟨.inl ⟨rfl, fun w' hw' => ?_⟩, ?_⟩; (focus ((obtain ⟨hc, hf⟩ := bcell hw'.out); (have hcS := bcellS hw'.out); go_simp <;> first | rfl | (go_at_call 22; exact eqRect_sameP r _))); (go_simp; refine hK _ ?_; clear hK K))
      refine wpG_nil ?_
      refine wpK_tail (by kernel_rfl) (fun w1 hg1 => ?_)
      refine wpAny_end (by kernel_rfl) ?_
      refine NoPan.thn ?_
      have hb1 := hg1.out
      replace HBB := Lib.hid (HBB.out.trans ((Below.refl wr.heap.size wr).drew.trans hb1 |>.mono HBB.out.size))
      clear hb1 hg1 c0 c1 c2 c3 d0 d1 d2 d3
      go_wp2
      go_roundw
      case rel => exact ⟨k + 1, by omega, by go_num, HBB.out⟩
      case measure => simp [intOf]; omega
    · have hd : decide ((k : Int) < (M.length : Int)) = false := by simp; omega
      have HBB := Lib.hid hB
      clear hB
      go_wp2
      go_ret
      exact ⟨rfl, HBB.out⟩
end Go.Proofs.Ytnkoeekgdehhiaa
