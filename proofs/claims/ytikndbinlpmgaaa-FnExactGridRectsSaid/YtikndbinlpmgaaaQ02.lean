import Derived.Test.YtikndbinlpmgaaaQ01
import Derived.Deep.RegionHeld3
import Derived.Deep.DrawnRows
import Derived.Deep.RegionWith
import Derived.LoopTactic
import Derived.OwnWalk
import Derived.Lib.SmallJoins
import Derived.Deep.Slices
import Derived.Deep.Fields
import Derived.ChangeSame
section
namespace Go.Proofs.Ytikndbinlpmgaaa
open Go.RowKit
set_option linter.unusedVariables false
attribute [local go_sem 5000] run_mx run_mn
attribute [local go_sem ↓] Go.wp_at_zero Go.wp_at_succ
attribute [local go_sem] growUpon_value growUpon_skip growUpon_enter
theorem wp_gen {P : Program} {c : Code} {Q : Exit → Act → World → Prop} {a : Act} {W : World} (F : World → Prop) (hF : F W) (h : ∀ W0, F W0 → c.wp P Q a W0) : c.wp P Q a W := h W hF
theorem bcell3 {W w1 : World} (hb : Below W.heap.size W w1) : (∀ b o, b < W.heap.size → w1.cell? ⟨b, o, none⟩ = W.cell? ⟨b, o, none⟩) ∧ (∀ b o, b < W.heap.size → w1.frozen? ⟨b, o, none⟩ = W.frozen? ⟨b, o, none⟩) ∧ (∀ b, b < W.heap.size → b < w1.heap.size) :=
  ⟨fun b o h => hb.cell (p := ⟨b, o, none⟩) h, fun b o h => hb.frozen (p := ⟨b, o, none⟩) h, fun b h => Nat.lt_of_lt_of_le h hb.size⟩
theorem bkeep2 {W0 w1 w2 : World} (h : Below W0.heap.size W0 w1) (hb : Below w1.heap.size w1 w2) : Below W0.heap.size W0 w2 := h.trans (hb.mono h.size)
theorem bkeep {B : Nat} {W0 w1 w2 : World} (h : Below B W0 w1) (hb : Below w1.heap.size w1 w2) (hB : B ≤ w1.heap.size) : Below B W0 w2 := h.trans (hb.mono hB)
theorem right_any (x y u v : Int) (w : World) (hS : Sm x y u v) : Calls Try.prog 81 #[.agg #[.int .i64 (x), .int .i64 (y), .int .i64 (u), .int .i64 (v)]] w fun e w' => e = .returned (.int .i64 (x + u)) ∧ Below w.heap.size w w' := by
  obtain ⟨⟨s1, s2⟩, ⟨s3, s4⟩, ⟨s5, s6⟩, ⟨s7, s8⟩⟩ := hS.out
  clear hS
  go_enter Try.func81, Try.ntmps81
  go_wp2
  all_goals try go_quiet (fail)
  all_goals try go_wp2
  go_ret
  exact ⟨rfl, ((Below.refl _ _).alloc (Nat.le_refl _) _)⟩
theorem bottom_any (x y u v : Int) (w : World) (hS : Sm x y u v) : Calls Try.prog 82 #[.agg #[.int .i64 (x), .int .i64 (y), .int .i64 (u), .int .i64 (v)]] w fun e w' => e = .returned (.int .i64 (y + v)) ∧ Below w.heap.size w w' := by
  obtain ⟨⟨s1, s2⟩, ⟨s3, s4⟩, ⟨s5, s6⟩, ⟨s7, s8⟩⟩ := hS.out
  clear hS
  go_enter Try.func82, Try.ntmps82
  go_wp2
  all_goals try go_quiet (fail)
  all_goals try go_wp2
  go_ret
  exact ⟨rfl, ((Below.refl _ _).alloc (Nat.le_refl _) _)⟩
theorem corners_any (l t r b : Int) (w : World) (hS : Sm l t r b) :
    Calls Try.prog 68 #[.int .i64 l, .int .i64 t, .int .i64 r, .int .i64 b] w fun e w' => e = .returned (.agg #[.int .i64 (l), .int .i64 (t), .int .i64 (r - l), .int .i64 (b - t)]) ∧ Below w.heap.size w w' := by
  obtain ⟨⟨s1, s2⟩, ⟨s3, s4⟩, ⟨s5, s6⟩, ⟨s7, s8⟩⟩ := hS.out
  clear hS
  go_enter Try.func68, Try.ntmps68
  go_wp2
  exact bodyPost_ret (v := .agg #[.int .i64 (l), .int .i64 (t), .int .i64 (r - l), .int .i64 (b - t)]) (by simp [results, Try.results68, go_sem]) rfl ⟨rfl, (Below.refl _ _).alloc (Nat.le_refl _) _⟩
set_option maxRecDepth 100000 in
set_option maxHeartbeats 1000000 in
theorem meet_no (x y u v x' y' u' v' : Int) (w : World) (h1 : vr x y u v = true) (h2 : vr x' y' u' v' = true) (h3 : hitB x y u v x' y' u' v' = false) :
    Calls Try.prog 39 #[.agg #[.int .i64 (x), .int .i64 (y), .int .i64 (u), .int .i64 (v)], .agg #[.int .i64 (x'), .int .i64 (y'), .int .i64 (u'), .int .i64 (v')]] w fun e w' => (e = .returned (.tuple #[.agg #[.int .i64 (0), .int .i64 (0), .int .i64 (0), .int .i64 (0)], .bool false])) ∧ Below w.heap.size w w' := by
  obtain ⟨m1, m2, m3, m4, m5, m6, m7, m8⟩ := meet_bds h1 h2
  have S1 := Sm_vr h1
  have S2 := Sm_vr h2
  have S3 : Sm (mx x x') (mx y y') (mn (x + u) (x' + u')) (mn (y + v) (y' + v')) := Sm_of (by omega)
  rw [hitB_not] at h3
  by_cases h4 : mn (x + u) (x' + u') - mx x x' ≤ 0
  all_goals
    go_enter Try.func39, Try.ntmps39
    go_wp2_with fail
    refine wp_named (fun W1 e1 => ?_)
    replace e1 := Lib.hid e1
    refine wp_region_grow 21 2 (· < 22) (by kernel_rfl) (by kernel_rfl) rfl ?_
    iterate 21 (refine wpG_step (fun K hK => ?_); apply Exists.intro; refine ⟨.inl ⟨rfl, fun w' hw' => ?_⟩, ?_⟩; (focus ((obtain ⟨hc, hf⟩ := bcell hw'.out); (have hcS := bcellS hw'.out); go_simp <;> first | rfl | (go_at_call 81; exact right_any _ _ _ _ _ (by assumption)) | (go_at_call 82; exact bottom_any _ _ _ _ _ (by assumption)) | (go_at_call 68; exact corners_any _ _ _ _ _ (by assumption)))); (go_simp; refine hK _ ?_; clear hK K))
    refine wpG_nil ?_
    refine wpK_one (i := 21) (by kernel_rfl) rfl rfl (by kernel_rfl) (fun w1_0 h1_0 => ?_)
    go_simp
    refine ⟨Gr.alloc _ _, ?_⟩
    refine wpK_tail (by kernel_rfl) (fun w1_9 h1_9 => ?_)
    obtain ⟨hc1_9, hf1_9⟩ := bcell h1_9.out
    refine wpAny_one (i := 22) (by kernel_rfl) rfl rfl ?_
    go_simp
    refine wpAny_end (by kernel_rfl) ?_
    have s1_a : W1.heap.size ≤ w1_9.heap.size := by rw [e1.out]; exact Nat.le_trans h1_0.out.size (Nat.le_trans (by simp) h1_9.out.size)
    have s1_b : W1.heap.size ≤ w1_0.heap.size := by rw [e1.out]; exact h1_0.out.size
    have s1_c : w1_0.heap.size < w1_9.heap.size := by have := h1_9.out.size; simp at this; omega
    have b1_a : Below W1.heap.size W1 w1_9 := by rw [e1.out]; exact bgrow (balloc (bgrow (Below.refl _ _).drew h1_0)) h1_9
    refine NoPan.gen (fun wf => Below W1.heap.size W1 wf ∧ W1.heap.size ≤ w1_0.heap.size ∧ w1_0.heap.size < wf.heap.size ∧ wf.cell? ⟨w1_0.heap.size, 0, none⟩ = some (.int .i64 (mx x x')) ∧ wf.frozen? ⟨w1_0.heap.size, 0, none⟩ = false ∧ wf.cell? ⟨w1_0.heap.size, 1, none⟩ = some (.int .i64 (mx y y')) ∧ wf.frozen? ⟨w1_0.heap.size, 1, none⟩ = false ∧ wf.cell? ⟨w1_0.heap.size, 2, none⟩ = some (.int .i64 (mn (x + u) (x' + u') - mx x x')) ∧ wf.frozen? ⟨w1_0.heap.size, 2, none⟩ = false ∧ wf.cell? ⟨w1_0.heap.size, 3, none⟩ = some (.int .i64 (mn (y + v) (y' + v') - mx y y')) ∧ wf.frozen? ⟨w1_0.heap.size, 3, none⟩ = false) ?_ (fun wf1 hwf1 => ?_)
    · refine ⟨by repeat (first | exact b1_a | (refine bset ?_ ?_; rotate_left; ((try dsimp only); omega))), ?_⟩
      refine ⟨s1_b, ?_⟩
      refine ⟨by simp; omega, ?_⟩
      go_simp
    generalize hgb1 : w1_0.heap.size = b1 at *
    have E := e1.out
    subst E
    obtain ⟨hB1, hl1, hu1, c1_0, f1_0, c1_1, f1_1, c1_2, f1_2, c1_3, f1_3⟩ := hwf1
    try simp only [World.size_alloc] at hl1
    clear hgb1 e1 hc1_9 hf1_9 s1_a s1_b s1_c b1_a h1_9 w1_9 h1_0 w1_0
    obtain ⟨hc1, hf1⟩ := bcell hB1
    go_wp2
    exact bodyPost_ret (v := .tuple #[.agg #[.int .i64 (0), .int .i64 (0), .int .i64 (0), .int .i64 (0)], .bool false]) (by simp only [results, Try.results39]; go_simp) rfl ⟨rfl, (by repeat (first | with_reducible exact Below.refl _ _ | with_reducible assumption | with_reducible refine balloc ?_ | (with_reducible refine bset ?_ ?_; rotate_left; ((try dsimp only); omega)) | refine bkeep2 ?_ (by assumption) | with_reducible refine Below.drew ?_))⟩
set_option maxRecDepth 100000 in
set_option maxHeartbeats 1000000 in
theorem meet_yes (x y u v x' y' u' v' : Int) (w : World) (h1 : vr x y u v = true) (h2 : vr x' y' u' v' = true) (h3 : hitB x y u v x' y' u' v' = true) :
    Calls Try.prog 39 #[.agg #[.int .i64 (x), .int .i64 (y), .int .i64 (u), .int .i64 (v)], .agg #[.int .i64 (x'), .int .i64 (y'), .int .i64 (u'), .int .i64 (v')]] w fun e w' => (e = .returned (.tuple #[.agg #[.int .i64 (mx x x'), .int .i64 (mx y y'), .int .i64 (mn (x + u) (x' + u') - mx x x'), .int .i64 (mn (y + v) (y' + v') - mx y y')], .bool true])) ∧ Below w.heap.size w w' := by
  obtain ⟨m1, m2, m3, m4, m5, m6, m7, m8⟩ := meet_bds h1 h2
  have S1 := Sm_vr h1
  have S2 := Sm_vr h2
  have S3 : Sm (mx x x') (mx y y') (mn (x + u) (x' + u')) (mn (y + v) (y' + v')) := Sm_of (by omega)
  rw [hitB_iff] at h3
  obtain ⟨h4, h5⟩ := h3
  all_goals
    go_enter Try.func39, Try.ntmps39
    go_wp2_with fail
    refine wp_named (fun W1 e1 => ?_)
    replace e1 := Lib.hid e1
    refine wp_region_grow 21 2 (· < 22) (by kernel_rfl) (by kernel_rfl) rfl ?_
    iterate 21 (refine wpG_step (fun K hK => ?_); apply Exists.intro; refine ⟨.inl ⟨rfl, fun w' hw' => ?_⟩, ?_⟩; (focus ((obtain ⟨hc, hf⟩ := bcell hw'.out); (have hcS := bcellS hw'.out); go_simp <;> first | rfl | (go_at_call 81; exact right_any _ _ _ _ _ (by assumption)) | (go_at_call 82; exact bottom_any _ _ _ _ _ (by assumption)) | (go_at_call 68; exact corners_any _ _ _ _ _ (by assumption)))); (go_simp; refine hK _ ?_; clear hK K))
    refine wpG_nil ?_
    refine wpK_one (i := 21) (by kernel_rfl) rfl rfl (by kernel_rfl) (fun w1_0 h1_0 => ?_)
    go_simp
    refine ⟨Gr.alloc _ _, ?_⟩
    refine wpK_tail (by kernel_rfl) (fun w1_9 h1_9 => ?_)
    obtain ⟨hc1_9, hf1_9⟩ := bcell h1_9.out
    refine wpAny_one (i := 22) (by kernel_rfl) rfl rfl ?_
    go_simp
    refine wpAny_end (by kernel_rfl) ?_
    have s1_a : W1.heap.size ≤ w1_9.heap.size := by rw [e1.out]; exact Nat.le_trans h1_0.out.size (Nat.le_trans (by simp) h1_9.out.size)
    have s1_b : W1.heap.size ≤ w1_0.heap.size := by rw [e1.out]; exact h1_0.out.size
    have s1_c : w1_0.heap.size < w1_9.heap.size := by have := h1_9.out.size; simp at this; omega
    have b1_a : Below W1.heap.size W1 w1_9 := by rw [e1.out]; exact bgrow (balloc (bgrow (Below.refl _ _).drew h1_0)) h1_9
    refine NoPan.gen (fun wf => Below W1.heap.size W1 wf ∧ W1.heap.size ≤ w1_0.heap.size ∧ w1_0.heap.size < wf.heap.size ∧ wf.cell? ⟨w1_0.heap.size, 0, none⟩ = some (.int .i64 (mx x x')) ∧ wf.frozen? ⟨w1_0.heap.size, 0, none⟩ = false ∧ wf.cell? ⟨w1_0.heap.size, 1, none⟩ = some (.int .i64 (mx y y')) ∧ wf.frozen? ⟨w1_0.heap.size, 1, none⟩ = false ∧ wf.cell? ⟨w1_0.heap.size, 2, none⟩ = some (.int .i64 (mn (x + u) (x' + u') - mx x x')) ∧ wf.frozen? ⟨w1_0.heap.size, 2, none⟩ = false ∧ wf.cell? ⟨w1_0.heap.size, 3, none⟩ = some (.int .i64 (mn (y + v) (y' + v') - mx y y')) ∧ wf.frozen? ⟨w1_0.heap.size, 3, none⟩ = false) ?_ (fun wf1 hwf1 => ?_)
    · refine ⟨by repeat (first | exact b1_a | (refine bset ?_ ?_; rotate_left; ((try dsimp only); omega))), ?_⟩
      refine ⟨s1_b, ?_⟩
      refine ⟨by simp; omega, ?_⟩
      go_simp
    generalize hgb1 : w1_0.heap.size = b1 at *
    have E := e1.out
    subst E
    obtain ⟨hB1, hl1, hu1, c1_0, f1_0, c1_1, f1_1, c1_2, f1_2, c1_3, f1_3⟩ := hwf1
    try simp only [World.size_alloc] at hl1
    clear hgb1 e1 hc1_9 hf1_9 s1_a s1_b s1_c b1_a h1_9 w1_9 h1_0 w1_0
    obtain ⟨hc1, hf1⟩ := bcell hB1
    go_wp2
    exact bodyPost_ret (v := .tuple #[.agg #[.int .i64 (mx x x'), .int .i64 (mx y y'), .int .i64 (mn (x + u) (x' + u') - mx x x'), .int .i64 (mn (y + v) (y' + v') - mx y y')], .bool true]) (by simp only [results, Try.results39]; go_simp) rfl ⟨rfl, (by repeat (first | with_reducible exact Below.refl _ _ | with_reducible assumption | with_reducible refine balloc ?_ | (with_reducible refine bset ?_ ?_; rotate_left; ((try dsimp only); omega)) | refine bkeep2 ?_ (by assumption) | with_reducible refine Below.drew ?_))⟩
end Go.Proofs.Ytikndbinlpmgaaa
end
section
namespace Go.Proofs.Ytikndbinlpmgaaa
open Go.RowKit
/-- behind a region that draws its order -/
theorem bdrewn {W w' : World} (h : Below W.drew.heap.size W.drew w') : Below W.heap.size W w' := (Below.refl _ _).drew.trans h
end Go.Proofs.Ytikndbinlpmgaaa
end
section
namespace Go.Proofs.Ytikndbinlpmgaaa
open Go.RowKit
set_option linter.unusedVariables false
set_option maxHeartbeats 1000000
/-- values written side by side -/
def wrAt (cs : Array Value) (o : Nat) : List Value → Array Value
  | [] => cs
  | v :: r => wrAt (cs.setIfInBounds o v) (o + 1) r
theorem wrAt_size : ∀ (vs : List Value) (cs : Array Value) (o : Nat), (wrAt cs o vs).size = cs.size
  | [], cs, o => rfl
  | v :: r, cs, o => by unfold wrAt; rw [wrAt_size r]; simp
theorem wrAt_lo : ∀ (vs : List Value) (cs : Array Value) (o i : Nat), i < o → (wrAt cs o vs)[i]? = cs[i]?
  | [], cs, o, i, _ => rfl
  | v :: r, cs, o, i, h => by unfold wrAt; rw [wrAt_lo r _ _ _ (by omega), Array.getElem?_setIfInBounds_ne (by omega)]
theorem wrAt_hi : ∀ (vs : List Value) (cs : Array Value) (o i : Nat), o + vs.length ≤ i → (wrAt cs o vs)[i]? = cs[i]?
  | [], cs, o, i, _ => rfl
  | v :: r, cs, o, i, h => by
    simp only [List.length_cons] at h
    unfold wrAt; rw [wrAt_hi r _ _ _ (by omega), Array.getElem?_setIfInBounds_ne (by omega)]
theorem wrAt_in : ∀ (vs : List Value) (cs : Array Value) (o j : Nat), o + vs.length ≤ cs.size → j < vs.length → (wrAt cs o vs)[o + j]? = vs[j]?
  | [], cs, o, j, _, h => by simp at h
  | v :: r, cs, o, 0, h, _ => by
    simp only [List.length_cons] at h
    unfold wrAt; rw [wrAt_lo r _ _ _ (by omega), Nat.add_zero, Array.getElem?_setIfInBounds_self_of_lt (by omega)]
    rfl
  | v :: r, cs, o, j + 1, h, hj => by
    simp only [List.length_cons] at h hj
    unfold wrAt
    rw [show o + (j + 1) = o + 1 + j from by omega, wrAt_in r _ _ _ (by simp; omega) (by omega)]
    simp
theorem putS {w : World} {b i : Nat} {cs : Array Value} {T : TypeId} {fz : Nat × Nat} (h : w.heap[b]? = some (.cells cs T fz)) (u : Value) : (w.setCell ⟨b, i, none⟩ u).heap[b]? = some (.cells (cs.setIfInBounds i u) T fz) := by
  simp [World.setCell, Array.getElem?_modify, h]
theorem cellS {w : World} {b : Nat} {cs : Array Value} {T : TypeId} {fz : Nat × Nat} (h : w.heap[b]? = some (.cells cs T fz)) (i : Nat) : w.cell? ⟨b, i, none⟩ = cs[i]? := by simp [World.cell?, h]
theorem frozenS {w : World} {b : Nat} {cs : Array Value} {T : TypeId} (h : w.heap[b]? = some (.cells cs T (0, 0))) (i : Nat) : w.frozen? ⟨b, i, none⟩ = false := by simp [World.frozen?, h]
theorem thereS {w : World} {b : Nat} {cs : Array Value} {T : TypeId} {fz : Nat × Nat} (h : w.heap[b]? = some (.cells cs T fz)) {i : Nat} (hi : i < cs.size) : ∃ v, w.cell? ⟨b, i, none⟩ = some v := ⟨cs[i], (cellS h i).trans (by simp [hi])⟩
theorem newS (w : World) (o : Obj) : (w.alloc o).heap[w.heap.size]? = some o := by
  show (w.heap.push _)[w.heap.size]? = _
  simp
theorem ltS {w : World} {g : Nat} {o : Obj} (h : w.heap[g]? = some o) : g < w.heap.size := (Array.getElem?_eq_some_iff.1 h).1
theorem gsetS {w w' : World} {g : Nat} (h : w.grownBy w' (some g)) (o : Nat) (v : Value) : w.grownBy (w'.setCell ⟨g, o, none⟩ v) (some g) :=
  ⟨h.os, h.tape, h.output, by simpa [World.setCell] using h.size, fun k hk hne => (Below.heap_setCell w' ⟨g, o, none⟩ v k (by rintro rfl; exact hne rfl)).trans (h.block k hk hne)⟩
theorem greflS (w : World) (g : Nat) : w.grownBy w (some g) := ⟨rfl, rfl, rfl, Nat.le_refl _, fun _ _ _ => rfl⟩
/-- the values lie in the cells from o on -/
def InS (cs : Array Value) (o : Nat) (l : List Value) : Prop := ∀ j u, l[j]? = some u → cs[o + j]? = some u
theorem InS.write {cs : Array Value} {o : Nat} {l : List Value} (h : o + l.length ≤ cs.size) : InS (wrAt cs o l) o l := fun j u hu => by
  have hj := (List.getElem?_eq_some_iff.1 hu).1
  rw [wrAt_in _ _ _ _ h hj, hu]
theorem InS.keepS {cs : Array Value} {o o' : Nat} {l m : List Value} (h : InS cs o' m) (hd : o' + m.length ≤ o ∨ o + l.length ≤ o') : InS (wrAt cs o l) o' m := fun j u hu => by
  have hj := (List.getElem?_eq_some_iff.1 hu).1
  rcases hd with hd | hd
  · rw [wrAt_lo _ _ _ _ (by omega)]; exact h j u hu
  · rw [wrAt_hi _ _ _ _ (by omega)]; exact h j u hu
end Go.Proofs.Ytikndbinlpmgaaa
end
section
namespace Go.Proofs.Ytikndbinlpmgaaa
open Go.RowKit
set_option linter.unusedVariables false
set_option maxHeartbeats 1000000
attribute [local go_sem] growUpon_value growUpon_skip growUpon_enter
structure Ln where
  wt : Int
  mi : Int
def valsLn (p : Ln) : List Value := [.int .i64 p.wt, .int .i64 p.mi]
/-- a slice that reads as this list -/
structure LnV (w : World) (A : Option Addr) (L : List Ln) : Prop where
  cells : 0 < L.length → ∃ b off, A = some ⟨b, off, none⟩ ∧ b < w.heap.size ∧ ∀ i p, L[i]? = some p → w.cell? ⟨b, off + i * 2, none⟩ = some (.int .i64 p.wt) ∧ w.cell? ⟨b, off + i * 2 + 1, none⟩ = some (.int .i64 p.mi)
theorem LnV.keep {w w' : World} {A : Option Addr} {L : List Ln} (h : LnV w A L) (hb : Below w.heap.size w w') : LnV w' A L :=
  ⟨fun h0 => let ⟨b, off, e, hl, hp⟩ := h.cells h0; ⟨b, off, e, Nat.lt_of_lt_of_le hl hb.size, fun i p hi => by
    obtain ⟨c0, c1⟩ := hp i p hi
    exact ⟨(hb.cell (p := ⟨b, off + i * 2, none⟩) hl).trans c0, (hb.cell (p := ⟨b, off + i * 2 + 1, none⟩) hl).trans c1⟩⟩⟩
theorem LnV.nil (w : World) (A : Option Addr) : LnV w A [] := ⟨fun h => absurd h (by simp)⟩
/-- what a new block holds -/
def LnB (w : World) (g : Nat) (L : List Ln) : Prop := ∃ cs : Array Value, w.heap[g]? = some (.cells cs 111 (0, 0)) ∧ cs.size = L.length * 2 ∧ ∀ i p, L[i]? = some p → InS cs (i * 2) (valsLn p)
theorem LnB.v {w : World} {g : Nat} {L : List Ln} (h : LnB w g L) : LnV w (some ⟨g, 0, none⟩) L := by
  obtain ⟨cs, hh, hs, hc⟩ := h
  refine ⟨fun _ => ⟨g, 0, rfl, ltS hh, fun i p hp => ?_⟩⟩
  have hi := hc i p hp
  simp only [Nat.zero_add]
  exact ⟨(cellS hh _).trans (hi 0 _ rfl), (cellS hh _).trans (hi 1 _ rfl)⟩
theorem LnB.lt {w : World} {g : Nat} {L : List Ln} (h : LnB w g L) : g < w.heap.size := by obtain ⟨cs, hh, _⟩ := h; exact ltS hh
theorem LnB.keep {w w' : World} {g : Nat} {L : List Ln} (h : LnB w g L) (hb : Below w.heap.size w w') : LnB w' g L := by
  obtain ⟨cs, hh, hs, hc⟩ := h
  exact ⟨cs, (hb.block g (ltS hh)).trans hh, hs, hc⟩
theorem LnB.but {w w' : World} {g h : Nat} {L : List Ln} (hi : LnB w h L) (hg : w.grownBy w' (some g)) (hne : h ≠ g) : LnB w' h L := by
  obtain ⟨cs, hh, hs, hc⟩ := hi
  exact ⟨cs, (hg.block h (ltS hh) (fun e => hne (Option.some.inj e))).trans hh, hs, hc⟩
theorem madeLn : ∃ f : Nat → Array Value, (∀ n, (f n).size = n * 2) ∧ ∀ (n : Nat) (w : World), n ≤ 1048576 → (Instr.makeSlice 23 (.int .i64 (n : Int)) (.int .i64 (n : Int))).run Try.prog w = .ok (.slice (some ⟨w.heap.size, 0, none⟩) n n) (w.alloc (.cells (f n) 111)) := by
  have hinfo : (Try.prog.info? 111).map (fun i => (i.zero, i.size, i.bytes)) = some (some (.agg #[.int .i64 0, .int .i64 0]), 2, 16) := by kernel_rfl
  obtain ⟨i, hi, h1, h2, h3⟩ := info_parts hinfo
  refine ⟨fun n => madeCells (Value.agg #[.int .i64 0, .int .i64 0]).cells (n * 2), fun n => size_madeCells _ _, fun n w hn => ?_⟩
  have hr := run_make (P := Try.prog) w 23 111 i _ Try.underlying23 hi h1 .i64 .i64 n n (by omega) (Int.le_refl _) (by rw [h3]; omega) (by omega)
  rw [h2] at hr
  simpa using hr
set_option maxRecDepth 100000 in
theorem toLn_v (p : Ln) (w : World) : Calls Try.prog 92 #[.agg #[.int .i64 p.wt, .int .i64 p.mi]] w fun e w' => e = .returned (.agg #[.int .i64 p.wt, .int .i64 p.mi]) ∧ Below w.heap.size w w' := by
  obtain ⟨x0, x1⟩ := p
  go_enter Try.func92, Try.ntmps92
  go_wp2
  exact bodyPost_ret (v := .agg #[.int .i64 x0, .int .i64 x1]) (by simp only [results, Try.results92]; go_simp) rfl ⟨rfl, (by repeat (first | with_reducible exact Below.refl _ _ | with_reducible assumption | with_reducible refine balloc ?_ | (with_reducible refine bset ?_ ?_; rotate_left; ((try dsimp only); omega)) | refine bkeep2 ?_ (by assumption) | with_reducible refine Below.drew ?_))⟩
theorem putLn {w : World} {b : Nat} {cs : Array Value} {T : TypeId} {fz : Nat × Nat} (h : w.heap[b]? = some (.cells cs T fz)) (o : Nat) (p : Ln) :
    (((w.setCell ⟨b, o, none⟩ (.int .i64 p.wt)).setCell ⟨b, o + 1, none⟩ (.int .i64 p.mi))).heap[b]? = some (.cells (wrAt cs o (valsLn p)) T fz) :=
  putS (putS h _) _
theorem putLnb {B b : Nat} {a w : World} (h : Below B a w) (hb : B ≤ b) (o : Nat) (p : Ln) : Below B a (((w.setCell ⟨b, o, none⟩ (.int .i64 p.wt)).setCell ⟨b, o + 1, none⟩ (.int .i64 p.mi))) :=
  ((h).setCell hb _).setCell hb _
set_option maxRecDepth 100000 in
theorem toLnS_any (A : Option Addr) (c : Nat) (L : List Ln) (w : World) (h : LnV w A L) (hL : L.length ≤ 1048576) :
    Calls Try.prog 54 #[.slice A L.length c] w fun e w' => e = .returned (.slice (some ⟨w.heap.size, 0, none⟩) L.length L.length) ∧ LnB w' w.heap.size L ∧ Below w.heap.size w w' := by
  obtain ⟨f, hf, hmk0⟩ := madeLn
  have hmk : ∀ w : World, (Instr.makeSlice 23 (.int .i64 (L.length : Int)) (.int .i64 (L.length : Int))).run Try.prog w = .ok (.slice (some ⟨w.heap.size, 0, none⟩) L.length L.length) (w.alloc (.cells (f L.length) 111)) := fun w => hmk0 L.length w hL
  go_enter Try.func54, Try.ntmps54
  go_wp2_with fail
  have HWW : Hid (∃ cs : Array Value, (w.alloc (.cells (f L.length) 111)).heap[w.heap.size]? = some (.cells cs 111 (0, 0)) ∧ cs.size = L.length * 2 ∧ ∀ i p, i < 0 → L[i]? = some p → InS cs (i * 2) (valsLn p)) := Lib.hid ⟨_, newS _ _, hf _, fun i p hi => absurd hi (by omega)⟩
  clear hmk hmk0 hf
  go_loopw [4] (fun i wr => ∃ k : Nat, k ≤ L.length ∧ i = .int .i64 k ∧ (∃ cs : Array Value, wr.heap[w.heap.size]? = some (.cells cs 111 (0, 0)) ∧ cs.size = L.length * 2 ∧ ∀ i p, i < k → L[i]? = some p → InS cs (i * 2) (valsLn p)) ∧ Below w.heap.size w wr) (fun i _ => L.length - (intOf i).toNat)
  case atStart => exact ⟨0, by omega, rfl, HWW.out, balloc (Below.refl _ _)⟩
  case round =>
    obtain ⟨k, hk, rfl, ⟨cs, hh, hs, hc⟩, hB⟩ := hrel
    clear HWW
    by_cases hlt : k < L.length
    · have hd : decide ((k : Int) < (L.length : Int)) = true := by simpa using hlt
      obtain ⟨b, off, rfl, hb, hp⟩ := (h.keep hB).cells (by omega)
      have hget : L[k]? = some L[k] := List.getElem?_eq_getElem hlt
      obtain ⟨c0, c1⟩ := hp k _ hget
      generalize hx : L[k] = p at *
      have HG := Lib.hid hget
      have HX := Lib.hid hx
      have HH := Lib.hid hh
      have HS := Lib.hid hs
      have HC := Lib.hid hc
      have HBB := Lib.hid hB
      have HP := Lib.hid hp
      clear hget hx hh hs hc hB hp
      go_wp2_with fail
      refine (toLn_v p _).mono ?_
      rintro e w1 ⟨rfl, hb1⟩
      have hlg : w.heap.size < wr.heap.size := ltS HH.out
      replace HH := Lib.hid ((hb1.block _ hlg).trans HH.out)
      replace HBB := Lib.hid (HBB.out.trans (hb1.mono HBB.out.size))
      clear hb1 c0 c1 hlg
      have hsz : k * 2 + 2 ≤ cs.size := by rw [HS.out]; omega
      obtain ⟨y0, d0⟩ := thereS HH.out (i := k * 2) (by omega)
      obtain ⟨y1, d1⟩ := thereS HH.out (i := k * 2 + 1) (by omega)
      have f0 := frozenS HH.out (k * 2)
      have f1 := frozenS HH.out (k * 2 + 1)
      have E1 := Lib.hid (putLn HH.out (k * 2) p)
      have E2 := Lib.hid (putLnb HBB.out (Nat.le_refl _) (k * 2) p)
      go_wp2
      go_roundw
      case rel => exact ⟨k + 1, by omega, by go_num, ⟨_, E1.out, (wrAt_size _ _ _).trans HS.out, fun i q hi hq => by
        by_cases e : i = k
        · subst e
          obtain rfl : p = q := by have := HG.out; rw [this] at hq; exact Option.some.inj hq
          exact InS.write (by simp only [valsLn, List.length_cons, List.length_nil]; omega)
        · exact (HC.out i q (by omega) hq).keepS (.inl (by simp only [valsLn, List.length_cons, List.length_nil]; omega))⟩, E2.out⟩
      case measure => simp [intOf]; omega
    · have hd : decide ((k : Int) < (L.length : Int)) = false := by simp; omega
      obtain rfl : k = L.length := by omega
      have HR := Lib.hid (show LnB wr w.heap.size L from ⟨cs, hh, hs, fun i p hp => hc i p (List.getElem?_eq_some_iff.1 hp).1 hp⟩)
      have HBB := Lib.hid hB
      clear hh hs hc hB
      go_wp2
      go_ret
      exact ⟨rfl, HR.out, HBB.out⟩
set_option maxRecDepth 100000 in
theorem eqLn_same (p : Ln) (w : World) : Calls Try.prog 94 #[.agg #[.int .i64 p.wt, .int .i64 p.mi], .agg #[.int .i64 p.wt, .int .i64 p.mi]] w fun e w' => e = .returned (.bool true) ∧ Below w.heap.size w w' := by
  go_enter Try.func94, Try.ntmps94
  go_wp2
  go_ret
  exact ⟨rfl, balloc (balloc (Below.refl _ _))⟩
set_option maxRecDepth 100000 in
theorem eqLnS_same (A B : Option Addr) (c c' : Nat) (L : List Ln) (w : World) (h : LnV w A L) (h' : LnV w B L) (hL : L.length ≤ 1048576) :
    Calls Try.prog 56 #[.slice A L.length c, .slice B L.length c'] w fun e w' => e = .returned (.bool true) ∧ Below w.heap.size w w' := by
  go_enter Try.func56, Try.ntmps56
  go_wp2_with fail
  go_loopw [5] (fun i wr => ∃ k : Nat, k ≤ L.length ∧ i = .int .i64 k ∧ Below w.heap.size w wr) (fun i _ => L.length - (intOf i).toNat)
  case atStart => exact ⟨0, by omega, rfl, Below.refl _ _⟩
  case round =>
    obtain ⟨k, hk, rfl, hB⟩ := hrel
    by_cases hlt : k < L.length
    · have hd : decide ((k : Int) < (L.length : Int)) = true := by simpa using hlt
      obtain ⟨b, off, rfl, hb, hp⟩ := (h.keep hB).cells (by omega)
      obtain ⟨b', off', rfl, hb', hp'⟩ := (h'.keep hB).cells (by omega)
      obtain ⟨c0, c1⟩ := hp k _ (List.getElem?_eq_getElem hlt)
      obtain ⟨d0, d1⟩ := hp' k _ (List.getElem?_eq_getElem hlt)
      generalize hx : L[k] = p at *
      have HX := Lib.hid hx
      have HBB := Lib.hid hB
      clear hx hp hp' hB
      go_wp2_with fail
      refine wp_region_grow 10 0 (· < 10) (by kernel_rfl) (by kernel_rfl) rfl ?_
      iterate 10 (refine wpG_step (fun K hK => ?_); first | (refine grow_skip rfl ?_; go_simp; refine hK _ ?_; clear hK K) | (apply Exists.intro; refine ⟨.inl ⟨rfl, fun w' hw' => ?_⟩, ?_⟩; (focus ((obtain ⟨hc, hf⟩ := bcell hw'.out); (have hcS := bcellS hw'.out); go_simp <;> first | rfl | (go_at_call 94; exact eqLn_same p _))); (go_simp; refine hK _ ?_; clear hK K)))
      refine wpG_nil ?_
      refine wpK_tail (by kernel_rfl) (fun w1 hg1 => ?_)
      have hb1 := bdrewn hg1.out
      refine wpAny_end (by kernel_rfl) ?_
      refine NoPan.thn ?_
      clear hg1
      replace HBB := Lib.hid (HBB.out.trans (hb1.mono HBB.out.size))
      clear hb1 c0 c1 d0 d1
      go_wp2
      go_roundw
      case rel => exact ⟨k + 1, by omega, by go_num, HBB.out⟩
      case measure => simp [intOf]; omega
    · have hd : decide ((k : Int) < (L.length : Int)) = false := by simp; omega
      have HBB := Lib.hid hB
      clear hB
      go_wp2
      go_ret
      exact ⟨rfl, HBB.out⟩
theorem szLnS_yes (A : Option Addr) (c n : Nat) (z : Int) (w : World) (h : (n : Int) ≤ z) (hz : z ≤ 1048576) : Calls Try.prog 52 #[.slice A n c, .int .i64 z] w fun e w' => e = .returned (.int .i64 (z - n)) ∧ w' = w := by
  have h1 : decide (z - (n : Int) < 0) = false := by simp; omega
  go_enter Try.func52, Try.ntmps52
  go_wp2
  go_ret
  exact ⟨rfl, rfl⟩
theorem szLnS_no (A : Option Addr) (c n : Nat) (z : Int) (w : World) (h : ¬ (n : Int) ≤ z) (h0 : 0 ≤ z) (hz : z ≤ 1048576) (hn : n ≤ maxLen) : Calls Try.prog 52 #[.slice A n c, .int .i64 z] w fun e w' => e = .returned (.int .i64 (-1)) ∧ w' = w := by
  unfold maxLen at hn
  have h1 : decide (z - (n : Int) < 0) = true := by simp; omega
  go_enter Try.func52, Try.ntmps52
  go_wp2
  go_ret
  exact ⟨rfl, rfl⟩
set_option maxRecDepth 100000 in
theorem markLnS_v (g n : Nat) (z : Int) (L : List Ln) (w : World) (h : LnB w g L) (hn : n = L.length) (hL : L.length ≤ 1048576) (h0 : 1 ≤ z) (hz : z ≤ 1000000000) :
    Calls Try.prog 59 #[.slice (some ⟨g, 0, none⟩) n n, .int .i64 z] w fun e w' => e = .returned (.int .i64 ((L.length : Int) * 2 + z)) ∧ w.grownBy w' (some g) := by
  subst hn
  obtain ⟨cs0, hh0, hs0, _⟩ := h
  have H0 := Lib.hid (And.intro hh0 hs0)
  clear hh0 hs0
  go_enter Try.func59, Try.ntmps59
  go_wp2_with fail
  go_loopw [1, 5] (fun kk i wr => ∃ k : Nat, k ≤ L.length ∧ i = .int .i64 k ∧ kk = .int .i64 ((k : Int) * 2 + z) ∧ (∃ cs : Array Value, wr.heap[g]? = some (.cells cs 111 (0, 0)) ∧ cs.size = L.length * 2) ∧ w.grownBy wr (some g)) (fun _ i _ => L.length - (intOf i).toNat)
  case atStart => exact ⟨0, by omega, rfl, by simp, ⟨_, H0.out.1, H0.out.2⟩, greflS _ _⟩
  case round =>
    obtain ⟨k, hk, rfl, rfl, ⟨cs, hh, hs⟩, hB⟩ := hrel
    clear H0
    by_cases hlt : k < L.length
    · have hd : decide ((k : Int) < (L.length : Int)) = true := by simpa using hlt
      obtain ⟨y0, d0⟩ := thereS hh (i := k * 2) (by omega)
      obtain ⟨y1, d1⟩ := thereS hh (i := k * 2 + 1) (by omega)
      have f0 := frozenS hh (k * 2)
      have f1 := frozenS hh (k * 2 + 1)
      have HH := Lib.hid hh
      have HS := Lib.hid hs
      have HB := Lib.hid hB
      clear hh hs hB
      go_wp2_with fail
      go_roundw
      case rel =>
        refine ⟨k + 1, by omega, by go_num, by go_num, ⟨_, putS (putS (HH.out) _) _, by simpa using HS.out⟩, ?_⟩
        exact gsetS (gsetS (HB.out) _ _) _ _
      case measure => simp [intOf]; omega
    · have hd : decide ((k : Int) < (L.length : Int)) = false := by simp; omega
      obtain rfl : k = L.length := by omega
      have HB := Lib.hid hB
      clear hh hs hB
      go_wp2
      go_ret
      exact ⟨rfl, HB.out⟩
end Go.Proofs.Ytikndbinlpmgaaa
end
section
namespace Go.Proofs.Ytikndbinlpmgaaa
open Go.Joins Go.ChangeShapes Go.WideShapes Go.RowKit Go.Deep
set_option linter.unusedVariables false
set_option maxRecDepth 100000 in
theorem lines_of {H : Type} {enc : TypeId × Value → H} {W : World} {a : Option Addr} {len cap : Nat} {d : DataW H} {ps : List MemPlace}
    (h : DataW.Trod enc Try.prog W 0 (fun _ => true) true 48 (.slice a len cap) d ps) : ∃ L : List Ln, L.length = len ∧ LnV W a L ∧ len ≤ maxLen := by
  obtain ⟨fuel, hf⟩ := h
  have h9 : Try.prog.cellsOf 115 = 2 := by kernel_rfl
  rcases open_slice Try.underlying48 hf with ⟨hcs, _⟩ | ⟨x, l, c, m, fu, D, Pl, hcs, _, hl, hm, hmm, _, hi⟩
  · simp [Value.cells] at hcs
    obtain ⟨rfl, rfl, rfl⟩ := hcs
    exact ⟨[], rfl, LnV.nil _ _, by simp⟩
  · simp [Value.cells] at hcs
    obtain ⟨rfl, rfl, rfl⟩ := hcs
    have hlen : len ≤ m := by rw [hmm]; simp; exact hl
    have each : ∀ i, i < len → ∃ p : Ln, ∀ j, j < 2 → W.cell? (x.add (i * 2 + j)) = (valsLn p)[j]? := by
      intro i him
      obtain ⟨cs, hrow, hread⟩ := hi i (by omega)
      rw [h9] at hrow
      obtain ⟨_, hsz, hat⟩ := World.cells?_some hrow
      obtain ⟨ys, n, _, _, _, hyl, hg⟩ := DataW.trod_struct Try.underlying115 hread
      match cs, hsz, hat, hg with
      | [k0, k1], _, hat, hg =>
        match ys, hyl, hg with
        | [y0, y1], _, hg =>
          have t0 : DataW.trod enc Try.prog W 0 (fun _ => true) true n 3 [k0] = some y0 := by
            have g := hg 0 _ rfl
            have c : Try.prog.cellsOf 3 = 1 := by kernel_rfl
            simpa [c] using g
          have t1 : DataW.trod enc Try.prog W 0 (fun _ => true) true n 3 [k1] = some y1 := by
            have g := hg 1 _ rfl
            have c : Try.prog.cellsOf 3 = 1 := by kernel_rfl
            simpa [c] using g
          obtain ⟨z0, e0, _, _⟩ := DataW.trod_int Try.underlying3 t0
          obtain ⟨z1, e1, _, _⟩ := DataW.trod_int Try.underlying3 t1
          simp only [List.cons.injEq, and_true] at e0 e1
          subst e0 e1
          refine ⟨⟨z0, z1⟩, fun j hj => ?_⟩
          have hb : ∀ (a : Addr) (i j : Nat), (a.add i).add j = a.add (i + j) := fun a i j => by
            unfold Addr.add
            by_cases hi : i = 0 <;> by_cases hj : j = 0 <;> simp [hi, hj, Nat.add_assoc]
          have := hat j hj
          rw [hb] at this
          exact this
    have hch : ∃ f : Nat → Ln, ∀ i, i < len → ∀ j, j < 2 → W.cell? (x.add (i * 2 + j)) = (valsLn (f i))[j]? := by
      refine ⟨fun i => if h : i < len then Classical.choose (each i h) else ⟨0, 0⟩, fun i him => ?_⟩
      simp only [him, dif_pos]
      exact Classical.choose_spec (each i him)
    obtain ⟨f, hfc⟩ := hch
    refine ⟨(List.range len).map f, by simp, ⟨fun h0 => ?_⟩, by omega⟩
    have h0' : 0 < len := by simpa using h0
    obtain ⟨b, off, spot⟩ := x
    have hc := hfc 0 h0' 0 (by omega)
    have hc' : W.cell? ⟨b, off, spot⟩ = some (.int .i64 (f 0).wt) := by simpa [Addr.add, valsLn] using hc
    have hspot : spot = none := World.cell?_spot hc'
    subst hspot
    refine ⟨b, off, rfl, World.block_lt_of_cell? W _ hc', fun i p hp => ?_⟩
    have hil : i < len := by
      have := (List.getElem?_eq_some_iff.1 hp).1
      simpa using this
    have hpe : p = f i := by
      rw [List.getElem?_map, List.getElem?_range hil] at hp
      simpa using hp.symm
    subst hpe
    have hadd : ∀ n : Nat, (⟨b, off, none⟩ : Addr).add n = ⟨b, off + n, none⟩ := fun n => by
      unfold Addr.add
      split
      · rename_i h; subst h; rfl
      · rfl
    have hcell := hfc i hil
    simp only [hadd] at hcell
    have e : ∀ j, j < 2 → W.cell? ⟨b, off + i * 2 + j, none⟩ = (valsLn (f i))[j]? := fun j hj => by rw [Nat.add_assoc]; exact hcell j hj
    exact ⟨e 0 (by omega), e 1 (by omega)⟩
end Go.Proofs.Ytikndbinlpmgaaa
end
section
namespace Go.Proofs.Ytikndbinlpmgaaa
open Go.RowKit
set_option linter.unusedVariables false
set_option maxHeartbeats 1000000
attribute [local go_sem] growUpon_value growUpon_skip growUpon_enter
structure Ce where
  co : Int
  ro : Int
  mc : Int
  mr : Int
  cw : Int
  ch : Int
  sk : Int
  px : Int
  py : Int
def valsCe (p : Ce) : List Value := [.int .i64 p.co, .int .i64 p.ro, .int .i64 p.mc, .int .i64 p.mr, .int .i64 p.cw, .int .i64 p.ch, .int .i64 p.sk, .int .i64 p.px, .int .i64 p.py]
/-- a slice that reads as this list -/
structure CeV (w : World) (A : Option Addr) (L : List Ce) : Prop where
  cells : 0 < L.length → ∃ b off, A = some ⟨b, off, none⟩ ∧ b < w.heap.size ∧ ∀ i p, L[i]? = some p → w.cell? ⟨b, off + i * 9, none⟩ = some (.int .i64 p.co) ∧ w.cell? ⟨b, off + i * 9 + 1, none⟩ = some (.int .i64 p.ro) ∧ w.cell? ⟨b, off + i * 9 + 2, none⟩ = some (.int .i64 p.mc) ∧ w.cell? ⟨b, off + i * 9 + 3, none⟩ = some (.int .i64 p.mr) ∧ w.cell? ⟨b, off + i * 9 + 4, none⟩ = some (.int .i64 p.cw) ∧ w.cell? ⟨b, off + i * 9 + 5, none⟩ = some (.int .i64 p.ch) ∧ w.cell? ⟨b, off + i * 9 + 6, none⟩ = some (.int .i64 p.sk) ∧ w.cell? ⟨b, off + i * 9 + 7, none⟩ = some (.int .i64 p.px) ∧ w.cell? ⟨b, off + i * 9 + 8, none⟩ = some (.int .i64 p.py)
theorem CeV.keep {w w' : World} {A : Option Addr} {L : List Ce} (h : CeV w A L) (hb : Below w.heap.size w w') : CeV w' A L :=
  ⟨fun h0 => let ⟨b, off, e, hl, hp⟩ := h.cells h0; ⟨b, off, e, Nat.lt_of_lt_of_le hl hb.size, fun i p hi => by
    obtain ⟨c0, c1, c2, c3, c4, c5, c6, c7, c8⟩ := hp i p hi
    exact ⟨(hb.cell (p := ⟨b, off + i * 9, none⟩) hl).trans c0, (hb.cell (p := ⟨b, off + i * 9 + 1, none⟩) hl).trans c1, (hb.cell (p := ⟨b, off + i * 9 + 2, none⟩) hl).trans c2, (hb.cell (p := ⟨b, off + i * 9 + 3, none⟩) hl).trans c3, (hb.cell (p := ⟨b, off + i * 9 + 4, none⟩) hl).trans c4, (hb.cell (p := ⟨b, off + i * 9 + 5, none⟩) hl).trans c5, (hb.cell (p := ⟨b, off + i * 9 + 6, none⟩) hl).trans c6, (hb.cell (p := ⟨b, off + i * 9 + 7, none⟩) hl).trans c7, (hb.cell (p := ⟨b, off + i * 9 + 8, none⟩) hl).trans c8⟩⟩⟩
theorem CeV.nil (w : World) (A : Option Addr) : CeV w A [] := ⟨fun h => absurd h (by simp)⟩
/-- what a new block holds -/
def CeB (w : World) (g : Nat) (L : List Ce) : Prop := ∃ cs : Array Value, w.heap[g]? = some (.cells cs 37 (0, 0)) ∧ cs.size = L.length * 9 ∧ ∀ i p, L[i]? = some p → InS cs (i * 9) (valsCe p)
theorem CeB.v {w : World} {g : Nat} {L : List Ce} (h : CeB w g L) : CeV w (some ⟨g, 0, none⟩) L := by
  obtain ⟨cs, hh, hs, hc⟩ := h
  refine ⟨fun _ => ⟨g, 0, rfl, ltS hh, fun i p hp => ?_⟩⟩
  have hi := hc i p hp
  simp only [Nat.zero_add]
  exact ⟨(cellS hh _).trans (hi 0 _ rfl), (cellS hh _).trans (hi 1 _ rfl), (cellS hh _).trans (hi 2 _ rfl), (cellS hh _).trans (hi 3 _ rfl), (cellS hh _).trans (hi 4 _ rfl), (cellS hh _).trans (hi 5 _ rfl), (cellS hh _).trans (hi 6 _ rfl), (cellS hh _).trans (hi 7 _ rfl), (cellS hh _).trans (hi 8 _ rfl)⟩
theorem CeB.lt {w : World} {g : Nat} {L : List Ce} (h : CeB w g L) : g < w.heap.size := by obtain ⟨cs, hh, _⟩ := h; exact ltS hh
theorem CeB.keep {w w' : World} {g : Nat} {L : List Ce} (h : CeB w g L) (hb : Below w.heap.size w w') : CeB w' g L := by
  obtain ⟨cs, hh, hs, hc⟩ := h
  exact ⟨cs, (hb.block g (ltS hh)).trans hh, hs, hc⟩
theorem CeB.but {w w' : World} {g h : Nat} {L : List Ce} (hi : CeB w h L) (hg : w.grownBy w' (some g)) (hne : h ≠ g) : CeB w' h L := by
  obtain ⟨cs, hh, hs, hc⟩ := hi
  exact ⟨cs, (hg.block h (ltS hh) (fun e => hne (Option.some.inj e))).trans hh, hs, hc⟩
theorem madeCe : ∃ f : Nat → Array Value, (∀ n, (f n).size = n * 9) ∧ ∀ (n : Nat) (w : World), n ≤ 1048576 → (Instr.makeSlice 24 (.int .i64 (n : Int)) (.int .i64 (n : Int))).run Try.prog w = .ok (.slice (some ⟨w.heap.size, 0, none⟩) n n) (w.alloc (.cells (f n) 37)) := by
  have hinfo : (Try.prog.info? 37).map (fun i => (i.zero, i.size, i.bytes)) = some (some (.agg #[.int .i64 0, .int .i64 0, .int .i64 0, .int .i64 0, .int .i64 0, .int .i64 0, .int .i64 0, .int .i64 0, .int .i64 0]), 9, 72) := by kernel_rfl
  obtain ⟨i, hi, h1, h2, h3⟩ := info_parts hinfo
  refine ⟨fun n => madeCells (Value.agg #[.int .i64 0, .int .i64 0, .int .i64 0, .int .i64 0, .int .i64 0, .int .i64 0, .int .i64 0, .int .i64 0, .int .i64 0]).cells (n * 9), fun n => size_madeCells _ _, fun n w hn => ?_⟩
  have hr := run_make (P := Try.prog) w 24 37 i _ Try.underlying24 hi h1 .i64 .i64 n n (by omega) (Int.le_refl _) (by rw [h3]; omega) (by omega)
  rw [h2] at hr
  simpa using hr
set_option maxRecDepth 100000 in
theorem toCe_v (p : Ce) (w : World) : Calls Try.prog 93 #[.agg #[.int .i64 p.co, .int .i64 p.ro, .int .i64 p.mc, .int .i64 p.mr, .int .i64 p.cw, .int .i64 p.ch, .int .i64 p.sk, .int .i64 p.px, .int .i64 p.py]] w fun e w' => e = .returned (.agg #[.int .i64 p.co, .int .i64 p.ro, .int .i64 p.mc, .int .i64 p.mr, .int .i64 p.cw, .int .i64 p.ch, .int .i64 p.sk, .int .i64 p.px, .int .i64 p.py]) ∧ Below w.heap.size w w' := by
  obtain ⟨x0, x1, x2, x3, x4, x5, x6, x7, x8⟩ := p
  go_enter Try.func93, Try.ntmps93
  go_wp2
  exact bodyPost_ret (v := .agg #[.int .i64 x0, .int .i64 x1, .int .i64 x2, .int .i64 x3, .int .i64 x4, .int .i64 x5, .int .i64 x6, .int .i64 x7, .int .i64 x8]) (by simp only [results, Try.results93]; go_simp) rfl ⟨rfl, (by repeat (first | with_reducible exact Below.refl _ _ | with_reducible assumption | with_reducible refine balloc ?_ | (with_reducible refine bset ?_ ?_; rotate_left; ((try dsimp only); omega)) | refine bkeep2 ?_ (by assumption) | with_reducible refine Below.drew ?_))⟩
theorem putCe {w : World} {b : Nat} {cs : Array Value} {T : TypeId} {fz : Nat × Nat} (h : w.heap[b]? = some (.cells cs T fz)) (o : Nat) (p : Ce) :
    ((((((((((w.setCell ⟨b, o, none⟩ (.int .i64 p.co)).setCell ⟨b, o + 1, none⟩ (.int .i64 p.ro)).setCell ⟨b, o + 2, none⟩ (.int .i64 p.mc)).setCell ⟨b, o + 3, none⟩ (.int .i64 p.mr)).setCell ⟨b, o + 4, none⟩ (.int .i64 p.cw)).setCell ⟨b, o + 5, none⟩ (.int .i64 p.ch)).setCell ⟨b, o + 6, none⟩ (.int .i64 p.sk)).setCell ⟨b, o + 7, none⟩ (.int .i64 p.px)).setCell ⟨b, o + 8, none⟩ (.int .i64 p.py))).heap[b]? = some (.cells (wrAt cs o (valsCe p)) T fz) :=
  putS (putS (putS (putS (putS (putS (putS (putS (putS h _) _) _) _) _) _) _) _) _
theorem putCeb {B b : Nat} {a w : World} (h : Below B a w) (hb : B ≤ b) (o : Nat) (p : Ce) : Below B a ((((((((((w.setCell ⟨b, o, none⟩ (.int .i64 p.co)).setCell ⟨b, o + 1, none⟩ (.int .i64 p.ro)).setCell ⟨b, o + 2, none⟩ (.int .i64 p.mc)).setCell ⟨b, o + 3, none⟩ (.int .i64 p.mr)).setCell ⟨b, o + 4, none⟩ (.int .i64 p.cw)).setCell ⟨b, o + 5, none⟩ (.int .i64 p.ch)).setCell ⟨b, o + 6, none⟩ (.int .i64 p.sk)).setCell ⟨b, o + 7, none⟩ (.int .i64 p.px)).setCell ⟨b, o + 8, none⟩ (.int .i64 p.py))) :=
  (((((((((h).setCell hb _).setCell hb _).setCell hb _).setCell hb _).setCell hb _).setCell hb _).setCell hb _).setCell hb _).setCell hb _
set_option maxRecDepth 100000 in
theorem toCeS_any (A : Option Addr) (c : Nat) (L : List Ce) (w : World) (h : CeV w A L) (hL : L.length ≤ 1048576) :
    Calls Try.prog 55 #[.slice A L.length c] w fun e w' => e = .returned (.slice (some ⟨w.heap.size, 0, none⟩) L.length L.length) ∧ CeB w' w.heap.size L ∧ Below w.heap.size w w' := by
  obtain ⟨f, hf, hmk0⟩ := madeCe
  have hmk : ∀ w : World, (Instr.makeSlice 24 (.int .i64 (L.length : Int)) (.int .i64 (L.length : Int))).run Try.prog w = .ok (.slice (some ⟨w.heap.size, 0, none⟩) L.length L.length) (w.alloc (.cells (f L.length) 37)) := fun w => hmk0 L.length w hL
  go_enter Try.func55, Try.ntmps55
  go_wp2_with fail
  have HWW : Hid (∃ cs : Array Value, (w.alloc (.cells (f L.length) 37)).heap[w.heap.size]? = some (.cells cs 37 (0, 0)) ∧ cs.size = L.length * 9 ∧ ∀ i p, i < 0 → L[i]? = some p → InS cs (i * 9) (valsCe p)) := Lib.hid ⟨_, newS _ _, hf _, fun i p hi => absurd hi (by omega)⟩
  clear hmk hmk0 hf
  go_loopw [4] (fun i wr => ∃ k : Nat, k ≤ L.length ∧ i = .int .i64 k ∧ (∃ cs : Array Value, wr.heap[w.heap.size]? = some (.cells cs 37 (0, 0)) ∧ cs.size = L.length * 9 ∧ ∀ i p, i < k → L[i]? = some p → InS cs (i * 9) (valsCe p)) ∧ Below w.heap.size w wr) (fun i _ => L.length - (intOf i).toNat)
  case atStart => exact ⟨0, by omega, rfl, HWW.out, balloc (Below.refl _ _)⟩
  case round =>
    obtain ⟨k, hk, rfl, ⟨cs, hh, hs, hc⟩, hB⟩ := hrel
    clear HWW
    by_cases hlt : k < L.length
    · have hd : decide ((k : Int) < (L.length : Int)) = true := by simpa using hlt
      obtain ⟨b, off, rfl, hb, hp⟩ := (h.keep hB).cells (by omega)
      have hget : L[k]? = some L[k] := List.getElem?_eq_getElem hlt
      obtain ⟨c0, c1, c2, c3, c4, c5, c6, c7, c8⟩ := hp k _ hget
      generalize hx : L[k] = p at *
      have HG := Lib.hid hget
      have HX := Lib.hid hx
      have HH := Lib.hid hh
      have HS := Lib.hid hs
      have HC := Lib.hid hc
      have HBB := Lib.hid hB
      have HP := Lib.hid hp
      clear hget hx hh hs hc hB hp
      go_wp2_with fail
      refine (toCe_v p _).mono ?_
      rintro e w1 ⟨rfl, hb1⟩
      have hlg : w.heap.size < wr.heap.size := ltS HH.out
      replace HH := Lib.hid ((hb1.block _ hlg).trans HH.out)
      replace HBB := Lib.hid (HBB.out.trans (hb1.mono HBB.out.size))
      clear hb1 c0 c1 c2 c3 c4 c5 c6 c7 c8 hlg
      have hsz : k * 9 + 9 ≤ cs.size := by rw [HS.out]; omega
      obtain ⟨y0, d0⟩ := thereS HH.out (i := k * 9) (by omega)
      obtain ⟨y1, d1⟩ := thereS HH.out (i := k * 9 + 1) (by omega)
      obtain ⟨y2, d2⟩ := thereS HH.out (i := k * 9 + 2) (by omega)
      obtain ⟨y3, d3⟩ := thereS HH.out (i := k * 9 + 3) (by omega)
      obtain ⟨y4, d4⟩ := thereS HH.out (i := k * 9 + 4) (by omega)
      obtain ⟨y5, d5⟩ := thereS HH.out (i := k * 9 + 5) (by omega)
      obtain ⟨y6, d6⟩ := thereS HH.out (i := k * 9 + 6) (by omega)
      obtain ⟨y7, d7⟩ := thereS HH.out (i := k * 9 + 7) (by omega)
      obtain ⟨y8, d8⟩ := thereS HH.out (i := k * 9 + 8) (by omega)
      have f0 := frozenS HH.out (k * 9)
      have f1 := frozenS HH.out (k * 9 + 1)
      have f2 := frozenS HH.out (k * 9 + 2)
      have f3 := frozenS HH.out (k * 9 + 3)
      have f4 := frozenS HH.out (k * 9 + 4)
      have f5 := frozenS HH.out (k * 9 + 5)
      have f6 := frozenS HH.out (k * 9 + 6)
      have f7 := frozenS HH.out (k * 9 + 7)
      have f8 := frozenS HH.out (k * 9 + 8)
      have E1 := Lib.hid (putCe HH.out (k * 9) p)
      have E2 := Lib.hid (putCeb HBB.out (Nat.le_refl _) (k * 9) p)
      go_wp2
      go_roundw
      case rel => exact ⟨k + 1, by omega, by go_num, ⟨_, E1.out, (wrAt_size _ _ _).trans HS.out, fun i q hi hq => by
        by_cases e : i = k
        · subst e
          obtain rfl : p = q := by have := HG.out; rw [this] at hq; exact Option.some.inj hq
          exact InS.write (by simp only [valsCe, List.length_cons, List.length_nil]; omega)
        · exact (HC.out i q (by omega) hq).keepS (.inl (by simp only [valsCe, List.length_cons, List.length_nil]; omega))⟩, E2.out⟩
      case measure => simp [intOf]; omega
    · have hd : decide ((k : Int) < (L.length : Int)) = false := by simp; omega
      obtain rfl : k = L.length := by omega
      have HR := Lib.hid (show CeB wr w.heap.size L from ⟨cs, hh, hs, fun i p hp => hc i p (List.getElem?_eq_some_iff.1 hp).1 hp⟩)
      have HBB := Lib.hid hB
      clear hh hs hc hB
      go_wp2
      go_ret
      exact ⟨rfl, HR.out, HBB.out⟩
set_option maxRecDepth 100000 in
theorem eqCe_same (p : Ce) (w : World) : Calls Try.prog 95 #[.agg #[.int .i64 p.co, .int .i64 p.ro, .int .i64 p.mc, .int .i64 p.mr, .int .i64 p.cw, .int .i64 p.ch, .int .i64 p.sk, .int .i64 p.px, .int .i64 p.py], .agg #[.int .i64 p.co, .int .i64 p.ro, .int .i64 p.mc, .int .i64 p.mr, .int .i64 p.cw, .int .i64 p.ch, .int .i64 p.sk, .int .i64 p.px, .int .i64 p.py]] w fun e w' => e = .returned (.bool true) ∧ Below w.heap.size w w' := by
  go_enter Try.func95, Try.ntmps95
  go_wp2
  go_ret
  exact ⟨rfl, balloc (balloc (Below.refl _ _))⟩
set_option maxRecDepth 100000 in
theorem eqCeS_same (A B : Option Addr) (c c' : Nat) (L : List Ce) (w : World) (h : CeV w A L) (h' : CeV w B L) (hL : L.length ≤ 1048576) :
    Calls Try.prog 57 #[.slice A L.length c, .slice B L.length c'] w fun e w' => e = .returned (.bool true) ∧ Below w.heap.size w w' := by
  go_enter Try.func57, Try.ntmps57
  go_wp2_with fail
  go_loopw [5] (fun i wr => ∃ k : Nat, k ≤ L.length ∧ i = .int .i64 k ∧ Below w.heap.size w wr) (fun i _ => L.length - (intOf i).toNat)
  case atStart => exact ⟨0, by omega, rfl, Below.refl _ _⟩
  case round =>
    obtain ⟨k, hk, rfl, hB⟩ := hrel
    by_cases hlt : k < L.length
    · have hd : decide ((k : Int) < (L.length : Int)) = true := by simpa using hlt
      obtain ⟨b, off, rfl, hb, hp⟩ := (h.keep hB).cells (by omega)
      obtain ⟨b', off', rfl, hb', hp'⟩ := (h'.keep hB).cells (by omega)
      obtain ⟨c0, c1, c2, c3, c4, c5, c6, c7, c8⟩ := hp k _ (List.getElem?_eq_getElem hlt)
      obtain ⟨d0, d1, d2, d3, d4, d5, d6, d7, d8⟩ := hp' k _ (List.getElem?_eq_getElem hlt)
      generalize hx : L[k] = p at *
      have HX := Lib.hid hx
      have HBB := Lib.hid hB
      clear hx hp hp' hB
      go_wp2_with fail
      refine wp_region_grow 10 0 (· < 10) (by kernel_rfl) (by kernel_rfl) rfl ?_
      iterate 10 (refine wpG_step (fun K hK => ?_); first | (refine grow_skip rfl ?_; go_simp; refine hK _ ?_; clear hK K) | (apply Exists.intro; refine ⟨.inl ⟨rfl, fun w' hw' => ?_⟩, ?_⟩; (focus ((obtain ⟨hc, hf⟩ := bcell hw'.out); (have hcS := bcellS hw'.out); go_simp <;> first | rfl | (go_at_call 95; exact eqCe_same p _))); (go_simp; refine hK _ ?_; clear hK K)))
      refine wpG_nil ?_
      refine wpK_tail (by kernel_rfl) (fun w1 hg1 => ?_)
      have hb1 := bdrewn hg1.out
      refine wpAny_end (by kernel_rfl) ?_
      refine NoPan.thn ?_
      clear hg1
      replace HBB := Lib.hid (HBB.out.trans (hb1.mono HBB.out.size))
      clear hb1 c0 c1 c2 c3 c4 c5 c6 c7 c8 d0 d1 d2 d3 d4 d5 d6 d7 d8
      go_wp2
      go_roundw
      case rel => exact ⟨k + 1, by omega, by go_num, HBB.out⟩
      case measure => simp [intOf]; omega
    · have hd : decide ((k : Int) < (L.length : Int)) = false := by simp; omega
      have HBB := Lib.hid hB
      clear hB
      go_wp2
      go_ret
      exact ⟨rfl, HBB.out⟩
theorem szCeS_yes (A : Option Addr) (c n : Nat) (z : Int) (w : World) (h : (n : Int) ≤ z) (hz : z ≤ 1048576) : Calls Try.prog 53 #[.slice A n c, .int .i64 z] w fun e w' => e = .returned (.int .i64 (z - n)) ∧ w' = w := by
  have h1 : decide (z - (n : Int) < 0) = false := by simp; omega
  go_enter Try.func53, Try.ntmps53
  go_wp2
  go_ret
  exact ⟨rfl, rfl⟩
theorem szCeS_no (A : Option Addr) (c n : Nat) (z : Int) (w : World) (h : ¬ (n : Int) ≤ z) (h0 : 0 ≤ z) (hz : z ≤ 1048576) (hn : n ≤ maxLen) : Calls Try.prog 53 #[.slice A n c, .int .i64 z] w fun e w' => e = .returned (.int .i64 (-1)) ∧ w' = w := by
  unfold maxLen at hn
  have h1 : decide (z - (n : Int) < 0) = true := by simp; omega
  go_enter Try.func53, Try.ntmps53
  go_wp2
  go_ret
  exact ⟨rfl, rfl⟩
set_option maxRecDepth 100000 in
theorem markCeS_v (g n : Nat) (z : Int) (L : List Ce) (w : World) (h : CeB w g L) (hn : n = L.length) (hL : L.length ≤ 1048576) (h0 : 1 ≤ z) (hz : z ≤ 1000000000) :
    Calls Try.prog 60 #[.slice (some ⟨g, 0, none⟩) n n, .int .i64 z] w fun e w' => e = .returned (.int .i64 ((L.length : Int) * 9 + z)) ∧ w.grownBy w' (some g) := by
  subst hn
  obtain ⟨cs0, hh0, hs0, _⟩ := h
  have H0 := Lib.hid (And.intro hh0 hs0)
  clear hh0 hs0
  go_enter Try.func60, Try.ntmps60
  go_wp2_with fail
  go_loopw [1, 5] (fun kk i wr => ∃ k : Nat, k ≤ L.length ∧ i = .int .i64 k ∧ kk = .int .i64 ((k : Int) * 9 + z) ∧ (∃ cs : Array Value, wr.heap[g]? = some (.cells cs 37 (0, 0)) ∧ cs.size = L.length * 9) ∧ w.grownBy wr (some g)) (fun _ i _ => L.length - (intOf i).toNat)
  case atStart => exact ⟨0, by omega, rfl, by simp, ⟨_, H0.out.1, H0.out.2⟩, greflS _ _⟩
  case round =>
    obtain ⟨k, hk, rfl, rfl, ⟨cs, hh, hs⟩, hB⟩ := hrel
    clear H0
    by_cases hlt : k < L.length
    · have hd : decide ((k : Int) < (L.length : Int)) = true := by simpa using hlt
      obtain ⟨y0, d0⟩ := thereS hh (i := k * 9) (by omega)
      obtain ⟨y1, d1⟩ := thereS hh (i := k * 9 + 1) (by omega)
      obtain ⟨y2, d2⟩ := thereS hh (i := k * 9 + 2) (by omega)
      obtain ⟨y3, d3⟩ := thereS hh (i := k * 9 + 3) (by omega)
      obtain ⟨y4, d4⟩ := thereS hh (i := k * 9 + 4) (by omega)
      obtain ⟨y5, d5⟩ := thereS hh (i := k * 9 + 5) (by omega)
      obtain ⟨y6, d6⟩ := thereS hh (i := k * 9 + 6) (by omega)
      obtain ⟨y7, d7⟩ := thereS hh (i := k * 9 + 7) (by omega)
      obtain ⟨y8, d8⟩ := thereS hh (i := k * 9 + 8) (by omega)
      have f0 := frozenS hh (k * 9)
      have f1 := frozenS hh (k * 9 + 1)
      have f2 := frozenS hh (k * 9 + 2)
      have f3 := frozenS hh (k * 9 + 3)
      have f4 := frozenS hh (k * 9 + 4)
      have f5 := frozenS hh (k * 9 + 5)
      have f6 := frozenS hh (k * 9 + 6)
      have f7 := frozenS hh (k * 9 + 7)
      have f8 := frozenS hh (k * 9 + 8)
      have HH := Lib.hid hh
      have HS := Lib.hid hs
      have HB := Lib.hid hB
      clear hh hs hB
      go_wp2_with fail
      go_roundw
      case rel =>
        refine ⟨k + 1, by omega, by go_num, by go_num, ⟨_, putS (putS (putS (putS (putS (putS (putS (putS (putS (HH.out) _) _) _) _) _) _) _) _) _, by simpa using HS.out⟩, ?_⟩
        exact gsetS (gsetS (gsetS (gsetS (gsetS (gsetS (gsetS (gsetS (gsetS (HB.out) _ _) _ _) _ _) _ _) _ _) _ _) _ _) _ _) _ _
      case measure => simp [intOf]; omega
    · have hd : decide ((k : Int) < (L.length : Int)) = false := by simp; omega
      obtain rfl : k = L.length := by omega
      have HB := Lib.hid hB
      clear hh hs hB
      go_wp2
      go_ret
      exact ⟨rfl, HB.out⟩
end Go.Proofs.Ytikndbinlpmgaaa
end
section
namespace Go.Proofs.Ytikndbinlpmgaaa
open Go.Joins Go.ChangeShapes Go.WideShapes Go.RowKit Go.Deep
set_option linter.unusedVariables false
set_option maxRecDepth 100000 in
theorem cells_of {H : Type} {enc : TypeId × Value → H} {W : World} {a : Option Addr} {len cap : Nat} {d : DataW H} {ps : List MemPlace}
    (h : DataW.Trod enc Try.prog W 0 (fun _ => true) true 49 (.slice a len cap) d ps) : ∃ L : List Ce, L.length = len ∧ CeV W a L ∧ len ≤ maxLen := by
  obtain ⟨fuel, hf⟩ := h
  have h9 : Try.prog.cellsOf 117 = 9 := by kernel_rfl
  rcases open_slice Try.underlying49 hf with ⟨hcs, _⟩ | ⟨x, l, c, m, fu, D, Pl, hcs, _, hl, hm, hmm, _, hi⟩
  · simp [Value.cells] at hcs
    obtain ⟨rfl, rfl, rfl⟩ := hcs
    exact ⟨[], rfl, CeV.nil _ _, by simp⟩
  · simp [Value.cells] at hcs
    obtain ⟨rfl, rfl, rfl⟩ := hcs
    have hlen : len ≤ m := by rw [hmm]; simp; exact hl
    have each : ∀ i, i < len → ∃ p : Ce, ∀ j, j < 9 → W.cell? (x.add (i * 9 + j)) = (valsCe p)[j]? := by
      intro i him
      obtain ⟨cs, hrow, hread⟩ := hi i (by omega)
      rw [h9] at hrow
      obtain ⟨_, hsz, hat⟩ := World.cells?_some hrow
      obtain ⟨ys, n, _, _, _, hyl, hg⟩ := DataW.trod_struct Try.underlying117 hread
      match cs, hsz, hat, hg with
      | [k0, k1, k2, k3, k4, k5, k6, k7, k8], _, hat, hg =>
        match ys, hyl, hg with
        | [y0, y1, y2, y3, y4, y5, y6, y7, y8], _, hg =>
          have t0 : DataW.trod enc Try.prog W 0 (fun _ => true) true n 3 [k0] = some y0 := by
            have g := hg 0 _ rfl
            have c : Try.prog.cellsOf 3 = 1 := by kernel_rfl
            simpa [c] using g
          have t1 : DataW.trod enc Try.prog W 0 (fun _ => true) true n 3 [k1] = some y1 := by
            have g := hg 1 _ rfl
            have c : Try.prog.cellsOf 3 = 1 := by kernel_rfl
            simpa [c] using g
          have t2 : DataW.trod enc Try.prog W 0 (fun _ => true) true n 3 [k2] = some y2 := by
            have g := hg 2 _ rfl
            have c : Try.prog.cellsOf 3 = 1 := by kernel_rfl
            simpa [c] using g
          have t3 : DataW.trod enc Try.prog W 0 (fun _ => true) true n 3 [k3] = some y3 := by
            have g := hg 3 _ rfl
            have c : Try.prog.cellsOf 3 = 1 := by kernel_rfl
            simpa [c] using g
          have t4 : DataW.trod enc Try.prog W 0 (fun _ => true) true n 3 [k4] = some y4 := by
            have g := hg 4 _ rfl
            have c : Try.prog.cellsOf 3 = 1 := by kernel_rfl
            simpa [c] using g
          have t5 : DataW.trod enc Try.prog W 0 (fun _ => true) true n 3 [k5] = some y5 := by
            have g := hg 5 _ rfl
            have c : Try.prog.cellsOf 3 = 1 := by kernel_rfl
            simpa [c] using g
          have t6 : DataW.trod enc Try.prog W 0 (fun _ => true) true n 3 [k6] = some y6 := by
            have g := hg 6 _ rfl
            have c : Try.prog.cellsOf 3 = 1 := by kernel_rfl
            simpa [c] using g
          have t7 : DataW.trod enc Try.prog W 0 (fun _ => true) true n 3 [k7] = some y7 := by
            have g := hg 7 _ rfl
            have c : Try.prog.cellsOf 3 = 1 := by kernel_rfl
            simpa [c] using g
          have t8 : DataW.trod enc Try.prog W 0 (fun _ => true) true n 3 [k8] = some y8 := by
            have g := hg 8 _ rfl
            have c : Try.prog.cellsOf 3 = 1 := by kernel_rfl
            simpa [c] using g
          obtain ⟨z0, e0, _, _⟩ := DataW.trod_int Try.underlying3 t0
          obtain ⟨z1, e1, _, _⟩ := DataW.trod_int Try.underlying3 t1
          obtain ⟨z2, e2, _, _⟩ := DataW.trod_int Try.underlying3 t2
          obtain ⟨z3, e3, _, _⟩ := DataW.trod_int Try.underlying3 t3
          obtain ⟨z4, e4, _, _⟩ := DataW.trod_int Try.underlying3 t4
          obtain ⟨z5, e5, _, _⟩ := DataW.trod_int Try.underlying3 t5
          obtain ⟨z6, e6, _, _⟩ := DataW.trod_int Try.underlying3 t6
          obtain ⟨z7, e7, _, _⟩ := DataW.trod_int Try.underlying3 t7
          obtain ⟨z8, e8, _, _⟩ := DataW.trod_int Try.underlying3 t8
          simp only [List.cons.injEq, and_true] at e0 e1 e2 e3 e4 e5 e6 e7 e8
          subst e0 e1 e2 e3 e4 e5 e6 e7 e8
          refine ⟨⟨z0, z1, z2, z3, z4, z5, z6, z7, z8⟩, fun j hj => ?_⟩
          have hb : ∀ (a : Addr) (i j : Nat), (a.add i).add j = a.add (i + j) := fun a i j => by
            unfold Addr.add
            by_cases hi : i = 0 <;> by_cases hj : j = 0 <;> simp [hi, hj, Nat.add_assoc]
          have := hat j hj
          rw [hb] at this
          exact this
    have hch : ∃ f : Nat → Ce, ∀ i, i < len → ∀ j, j < 9 → W.cell? (x.add (i * 9 + j)) = (valsCe (f i))[j]? := by
      refine ⟨fun i => if h : i < len then Classical.choose (each i h) else ⟨0, 0, 0, 0, 0, 0, 0, 0, 0⟩, fun i him => ?_⟩
      simp only [him, dif_pos]
      exact Classical.choose_spec (each i him)
    obtain ⟨f, hfc⟩ := hch
    refine ⟨(List.range len).map f, by simp, ⟨fun h0 => ?_⟩, by omega⟩
    have h0' : 0 < len := by simpa using h0
    obtain ⟨b, off, spot⟩ := x
    have hc := hfc 0 h0' 0 (by omega)
    have hc' : W.cell? ⟨b, off, spot⟩ = some (.int .i64 (f 0).co) := by simpa [Addr.add, valsCe] using hc
    have hspot : spot = none := World.cell?_spot hc'
    subst hspot
    refine ⟨b, off, rfl, World.block_lt_of_cell? W _ hc', fun i p hp => ?_⟩
    have hil : i < len := by
      have := (List.getElem?_eq_some_iff.1 hp).1
      simpa using this
    have hpe : p = f i := by
      rw [List.getElem?_map, List.getElem?_range hil] at hp
      simpa using hp.symm
    subst hpe
    have hadd : ∀ n : Nat, (⟨b, off, none⟩ : Addr).add n = ⟨b, off + n, none⟩ := fun n => by
      unfold Addr.add
      split
      · rename_i h; subst h; rfl
      · rfl
    have hcell := hfc i hil
    simp only [hadd] at hcell
    have e : ∀ j, j < 9 → W.cell? ⟨b, off + i * 9 + j, none⟩ = (valsCe (f i))[j]? := fun j hj => by rw [Nat.add_assoc]; exact hcell j hj
    exact ⟨e 0 (by omega), e 1 (by omega), e 2 (by omega), e 3 (by omega), e 4 (by omega), e 5 (by omega), e 6 (by omega), e 7 (by omega), e 8 (by omega)⟩
end Go.Proofs.Ytikndbinlpmgaaa
end
section
namespace Go.Proofs.Ytikndbinlpmgaaa
open Go.Joins Go.ChangeShapes Go.WideShapes Go.RowKit Go.Deep
set_option linter.unusedVariables false
set_option maxRecDepth 100000 in
theorem slLn_of {H : Type} {enc : TypeId × Value → H} {W : World} {n : Nat} {v0 : Value} {y : DataW H × List MemPlace}
    (h : DataW.trod enc Try.prog W 0 (fun _ => true) true n 48 [v0] = some y) : ∃ a c, ∃ L : List Ln, v0 = .slice a L.length c ∧ LnV W a L ∧ L.length ≤ maxLen := by
  obtain ⟨a, len, c, rfl⟩ : ∃ a len c, v0 = .slice a len c := by
    rcases open_slice Try.underlying48 h with ⟨hcs, _⟩ | ⟨x, l, c, m, fu, D, Pl, hcs, _⟩
    · exact ⟨none, 0, 0, by simpa using hcs⟩
    · exact ⟨some x, l, c, by simpa using hcs⟩
  obtain ⟨L, rfl, k, m⟩ := lines_of (enc := enc) (a := a) (len := len) (cap := c) (d := y.1) (ps := y.2) ⟨n, by simpa [Value.cells] using h⟩
  exact ⟨a, c, L, rfl, k, m⟩
set_option maxRecDepth 100000 in
theorem slCe_of {H : Type} {enc : TypeId × Value → H} {W : World} {n : Nat} {v0 : Value} {y : DataW H × List MemPlace}
    (h : DataW.trod enc Try.prog W 0 (fun _ => true) true n 49 [v0] = some y) : ∃ a c, ∃ L : List Ce, v0 = .slice a L.length c ∧ CeV W a L ∧ L.length ≤ maxLen := by
  obtain ⟨a, len, c, rfl⟩ : ∃ a len c, v0 = .slice a len c := by
    rcases open_slice Try.underlying49 h with ⟨hcs, _⟩ | ⟨x, l, c, m, fu, D, Pl, hcs, _⟩
    · exact ⟨none, 0, 0, by simpa using hcs⟩
    · exact ⟨some x, l, c, by simpa using hcs⟩
  obtain ⟨L, rfl, k, m⟩ := cells_of (enc := enc) (a := a) (len := len) (cap := c) (d := y.1) (ps := y.2) ⟨n, by simpa [Value.cells] using h⟩
  exact ⟨a, c, L, rfl, k, m⟩
set_option maxRecDepth 100000 in
theorem grid_of {H : Type} {enc : TypeId × Value → H} {W : World} {base : Nat} {v : Value} {d : DataW H} {ps : List MemPlace}
    (hv : Value.okWide Try.prog W .any base 51 v) (h : DataW.Trod enc Try.prog W 0 (fun _ => true) true 51 v d ps) :
    ∃ a1 c1, ∃ L1 : List Ln, ∃ a2 c2, ∃ L2 : List Ln, ∃ a3 c3, ∃ L3 : List Ce, v = .agg #[.slice a1 L1.length c1, .slice a2 L2.length c2, .slice a3 L3.length c3] ∧ (LnV W a1 L1 ∧ L1.length ≤ maxLen) ∧ (LnV W a2 L2 ∧ L2.length ≤ maxLen) ∧ (CeV W a3 L3 ∧ L3.length ≤ maxLen) := by
  obtain ⟨v0, v1, v2, y0, y1, y2, n, rfl, _, _, h0, h1, h2⟩ := open_agg3' Try.underlying51 (by kernel_rfl) (by kernel_rfl) hv h
  obtain ⟨a1, c1, L1, rfl, k1, m1⟩ := slLn_of h0
  obtain ⟨a2, c2, L2, rfl, k2, m2⟩ := slLn_of h1
  obtain ⟨a3, c3, L3, rfl, k3, m3⟩ := slCe_of h2
  exact ⟨a1, c1, L1, a2, c2, L2, a3, c3, L3, rfl, ⟨k1, m1⟩, ⟨k2, m2⟩, ⟨k3, m3⟩⟩
end Go.Proofs.Ytikndbinlpmgaaa
end
