import Derived.Test.YtikndbinlpmgaaaQ11
section
namespace Go.Proofs.Ytikndbinlpmgaaa
open Go.RowKit
set_option linter.unusedVariables false
set_option maxHeartbeats 1000000
attribute [local go_sem] growUpon_value growUpon_skip growUpon_enter
def spvalsN : List Sp → List Value
  | [] => []
  | r :: t => valsSp r ++ spvalsN t
theorem spvalsN_append (A B : List Sp) : spvalsN (A ++ B) = spvalsN A ++ spvalsN B := by
  induction A with
  | nil => rfl
  | cons r t ih => simp [spvalsN, ih]
theorem spvalsN_succ {M : List Sp} {k : Nat} {r : Sp} (h : M[k]? = some r) : spvalsN (M.take k) ++ valsSp r = spvalsN (M.take (k + 1)) := by
  rw [List.take_add_one, h, Option.toList, spvalsN_append]; simp [spvalsN]
theorem spvalsN_get : ∀ {M : List Sp} {i : Nat} {r : Sp}, M[i]? = some r → ∀ j, j < 3 → (spvalsN M)[i * 3 + j]? = (valsSp r)[j]?
  | [], i, r, h, _, _ => by simp at h
  | q :: t, 0, r, h, j, hj => by
    simp at h; subst h
    show (valsSp q ++ spvalsN t)[0 * 3 + j]? = _
    rw [List.getElem?_append_left (by simp [valsSp]; omega)]; simp
  | q :: t, i + 1, r, h, j, hj => by
    show (valsSp q ++ spvalsN t)[(i + 1) * 3 + j]? = _
    rw [List.getElem?_append_right (by simp [valsSp]; omega)]
    have := spvalsN_get (M := t) (i := i) (r := r) (by simpa using h) j hj
    rw [← this]; congr 1; simp [valsSp]; omega
/-- the value reads as the list -/
def SpR (w : World) (v : Value) (L : List Sp) : Prop := ∃ A c, v = .slice A L.length c ∧ SpV w A L
theorem SpR.keep {w w' : World} {v : Value} {L : List Sp} (h : SpR w v L) (hb : Below w.heap.size w w') : SpR w' v L := let ⟨A, c, e, n⟩ := h; ⟨A, c, e, n.keep hb⟩
theorem SpR.own {w : World} {base n : Nat} {v : Value} {M : List Sp} {T : TypeId} (h : w.ownsRow base T 3 v n (spvalsN M)) (hn : n = M.length) : SpR w v M := by
  subst hn
  have hl := h.lt
  have hc := fun g hg => h.cells (g := g) hg
  rcases h.2 with ⟨rfl, h0⟩ | ⟨g, cap, cur, rfl, _⟩
  · exact ⟨none, 0, by rw [h0], ⟨fun h => absurd h (by omega)⟩⟩
  · refine ⟨_, cap, rfl, ⟨fun _ => ⟨g, 0, rfl, (hl g rfl).2, fun i r hr => ?_⟩⟩⟩
    have e : ∀ j, j < 3 → ∀ u, (valsSp r)[j]? = some u → w.cell? ⟨g, 0 + i * 3 + j, none⟩ = some u := fun j hj u hu => by
      have h1 := hc g rfl (i * 3 + j) u ((spvalsN_get hr j hj).trans hu)
      have hadd : (⟨g, 0, none⟩ : Addr).add (i * 3 + j) = ⟨g, i * 3 + j, none⟩ := by unfold Addr.add; split <;> simp_all
      rw [hadd] at h1
      rwa [Nat.zero_add]
    exact ⟨e 0 (by omega) _ rfl, e 1 (by omega) _ rfl, e 2 (by omega) _ rfl⟩
theorem span_infoN : ∃ (i : TypeInfo) (z : Value), Try.prog.info? 102 = some i ∧ i.zero = some z ∧ i.size = 3 ∧ i.bytes = 24 ∧ z.cells.size = 3 := by
  have hinfo : (Try.prog.info? 102).map (fun i => (i.zero, i.size, i.bytes)) = some (some (.agg #[.int .i64 0, .int .i64 0, .int .i64 0]), 3, 24) := by kernel_rfl
  obtain ⟨i, hi, h1, h2, h3⟩ := info_parts hinfo
  exact ⟨i, _, hi, h1, h2, h3, rfl⟩
theorem newSp3 (W : World) (r : Sp) (T : TypeId) : ∀ (j : Nat) (u : Value), (valsSp r)[j]? = some u → (W.alloc (.cells #[.int .i64 r.sa, .int .i64 r.many, .int .i64 r.need] T)).cell? ((⟨W.heap.size, 0, none⟩ : Addr).add j) = some u := fun j u h => by
  have hadd : (⟨W.heap.size, 0, none⟩ : Addr).add j = ⟨W.heap.size, j, none⟩ := by unfold Addr.add; split <;> simp_all
  rw [hadd]
  exact (cellS (newS W _) j).trans (by simpa [valsSp] using h)
theorem valsSp_one (r : Sp) : ∀ u ∈ valsSp r, u.oneCell' = true := by intro u hu; simp [valsSp] at hu; rcases hu with rfl | rfl | rfl <;> rfl
theorem own_belowN {w w' : World} {base : Nat} {e : TypeId} {size : Nat} {v : Value} {n : Nat} {xs : List Value} (h : w.ownsRow base e size v n xs) (hb : Below w.heap.size w w') : w'.ownsRow base e size v n xs :=
  h.kept (row := none) ⟨hb.os, hb.tape, hb.output, hb.size, fun k hk _ => hb.block k hk⟩ (by cases v.ownBlock <;> simp)
set_option maxRecDepth 100000 in
theorem colSpans_v (A1 A2 A3 : Option Addr) (c1 n1 c2 n2 c3 : Nat) (L : List Ce) (w : World) (h : CeV w A3 L) (hL : L.length ≤ 8) (hsm : ∀ p ∈ L, smC p) :
    Calls Try.prog 46 #[.agg #[.slice A1 n1 c1, .slice A2 n2 c2, .slice A3 L.length c3]] w fun e w' => (∃ v, e = .returned v ∧ SpR w' v (L.map acM)) ∧ Below w.heap.size w w' := by
  obtain ⟨ti, tz, ti1, ti2, ti3, ti4, ti5⟩ := span_infoN
  have HSM := Lib.hid hsm
  clear hsm
  have ho0 := World.ownsRow_lit (base := (w.alloc (.cells #[.slice A1 n1 c1, .slice A2 n2 c2, .slice A3 L.length c3] 26 (0, 0))).heap.size) (e := 102) (size := 3) (w.alloc (.cells #[.slice A1 n1 c1, .slice A2 n2 c2, .slice A3 L.length c3] 26 (0, 0))) #[] 0 (Nat.le_refl _) (by decide) rfl
  rw [World.size_alloc] at ho0
  have HO := Lib.hid (show ((w.alloc (.cells #[.slice A1 n1 c1, .slice A2 n2 c2, .slice A3 L.length c3] 26 (0, 0))).alloc (.cells #[] 102 (0, 0))).ownsRow (w.heap.size + 1) 102 3 (.slice (some ⟨w.heap.size + 1, 0, none⟩) 0 0) 0 (spvalsN []) from ho0)
  have HG := Lib.hid ((Below.heap_alloc (w.alloc (.cells #[.slice A1 n1 c1, .slice A2 n2 c2, .slice A3 L.length c3] 26 (0, 0))) (.cells #[] 102 (0, 0)) w.heap.size (by simp)).trans (newS w (.cells #[.slice A1 n1 c1, .slice A2 n2 c2, .slice A3 L.length c3] 26 (0, 0))))
  have HB := Lib.hid (balloc (o := (.cells #[] 102 (0, 0))) (balloc (o := (.cells #[.slice A1 n1 c1, .slice A2 n2 c2, .slice A3 L.length c3] 26 (0, 0))) (Below.refl w.heap.size w)))
  clear ho0
  go_enter Try.func46, Try.ntmps46
  go_wp2_with fail
  go_loopw [3, 4] (fun out i wr => ∃ k : Nat, k ≤ L.length ∧ i = .int .i64 k ∧ wr.ownsRow (w.heap.size + 1) 102 3 out k (spvalsN ((L.map acM).take k)) ∧ wr.heap[w.heap.size]? = some (.cells #[.slice A1 n1 c1, .slice A2 n2 c2, .slice A3 L.length c3] 26 (0, 0)) ∧ Below w.heap.size w wr) (fun _ i _ => L.length - (intOf i).toNat)
  case atStart => exact ⟨0, by omega, rfl, HO.out, HG.out, HB.out⟩
  case round =>
    obtain ⟨k, hk, rfl, ho, hg, hB⟩ := hrel
    clear HO HB HG
    have g2 := cellS hg 2
    by_cases hlt : k < L.length
    · have hd : decide ((k : Int) < (L.length : Int)) = true := by simpa using hlt
      obtain ⟨b, off, rfl, hb, hp⟩ := (h.keep hB).cells (by omega)
      have hget : L[k]? = some L[k] := List.getElem?_eq_getElem hlt
      obtain ⟨d0, d1, d2, d3, d4, d5, d6, d7, d8⟩ := hp k _ hget
      have hsk : smC L[k] := HSM.out _ (List.getElem_mem hlt)
      generalize hx : L[k] = p at *
      have HTS := Lib.hid (spvalsN_succ (show (L.map acM)[k]? = some (acM p) by rw [List.getElem?_map, hget]; rfl))
      have hob := ho.lt
      have HO := Lib.hid ho
      have HB := Lib.hid hB
      have HG := Lib.hid hg
      clear ho hB hg hp hget hx
      go_upto_region 6 with (fail)
      refine wp_genGG (fun W => W.heap[wr.heap.size]? = some (.cells #[.int .i64 p.co, .int .i64 p.ro, .int .i64 p.mc, .int .i64 p.mr, .int .i64 p.cw, .int .i64 p.ch, .int .i64 p.sk, .int .i64 p.px, .int .i64 p.py] 37 (0, 0)) ∧ Below wr.heap.size wr W) ⟨newS _ _, balloc (Below.refl _ _)⟩ (fun W h0 => ?_)
      clear d0 d1 d2 d3 d4 d5 d6 d7 d8 g2
      obtain ⟨hx, hbW⟩ := h0
      have x0 := cellS hx 0
      have x1 := cellS hx 2
      have x2 := cellS hx 4
      have x3 := cellS hx 7
      have hlg := ltS HG.out
      have hsW := hbW.size
      replace HO := Lib.hid (own_belowN HO.out hbW)
      replace HG := Lib.hid ((hbW.block _ hlg).trans HG.out)
      replace HB := Lib.hid (bkeep2 HB.out hbW)
      obtain ⟨⟨b1, b2⟩, ⟨b3, b4⟩, ⟨b5, b6⟩, ⟨b7, b8⟩⟩ := hsk
      clear hx hbW
      go_wp2_with (at_builtin; refine wpList_append_own _ rfl _ _ 74 rfl (w.heap.size + 1) 102 ti tz 3 24 Try.underlying74 ti1 ti2 ti3 ti4 ti5 (by decide) _ _ _ rfl (HO.out.alloc _) ⟨W.heap.size, 0, none⟩ 1 1 (valsSp (acM p)) rfl rfl (newSp3 _ (acM p) _) (valsSp_one _) (by simp only [maxLen]; omega) (by omega) (by simp; omega) ?_)
      intro v5 w5 how5 hgr5 _
      rw [HTS.out] at how5
      have hg5 := (hgr5.block w.heap.size (by simp; omega) (fun e => by have := hob _ e.symm; omega)).trans ((Below.heap_alloc _ _ _ (by omega)).trans HG.out)
      replace HB := Lib.hid (below_own HB.out hgr5 hob (by omega) (Nat.le_refl _))
      replace HO := Lib.hid how5
      replace HG := Lib.hid hg5
      clear how5 hgr5 hob x0 x1 x2 x3 hg5
      go_wp2
      go_roundw
      case rel => exact ⟨k + 1, by omega, by go_num, by simpa using HO.out, HG.out, HB.out⟩
      case measure => simp [intOf]; omega
    · have hd : decide ((k : Int) < (L.length : Int)) = false := decide_eq_false (by omega)
      obtain rfl : k = L.length := by omega
      have he : (L.map acM).take L.length = L.map acM := List.take_of_length_le (by simp)
      rw [he] at ho
      have HR := Lib.hid (SpR.own ho (by simp))
      have HB := Lib.hid hB
      clear ho hB he hg
      go_wp2
      go_ret
      exact ⟨⟨_, rfl, HR.out⟩, HB.out⟩
set_option maxRecDepth 100000 in
theorem rowSpans_v (A1 A2 A3 : Option Addr) (c1 n1 c2 n2 c3 : Nat) (L : List Ce) (w : World) (h : CeV w A3 L) (hL : L.length ≤ 8) (hsm : ∀ p ∈ L, smC p) :
    Calls Try.prog 47 #[.agg #[.slice A1 n1 c1, .slice A2 n2 c2, .slice A3 L.length c3]] w fun e w' => (∃ v, e = .returned v ∧ SpR w' v (L.map dnM)) ∧ Below w.heap.size w w' := by
  obtain ⟨ti, tz, ti1, ti2, ti3, ti4, ti5⟩ := span_infoN
  have HSM := Lib.hid hsm
  clear hsm
  have ho0 := World.ownsRow_lit (base := (w.alloc (.cells #[.slice A1 n1 c1, .slice A2 n2 c2, .slice A3 L.length c3] 26 (0, 0))).heap.size) (e := 102) (size := 3) (w.alloc (.cells #[.slice A1 n1 c1, .slice A2 n2 c2, .slice A3 L.length c3] 26 (0, 0))) #[] 0 (Nat.le_refl _) (by decide) rfl
  rw [World.size_alloc] at ho0
  have HO := Lib.hid (show ((w.alloc (.cells #[.slice A1 n1 c1, .slice A2 n2 c2, .slice A3 L.length c3] 26 (0, 0))).alloc (.cells #[] 102 (0, 0))).ownsRow (w.heap.size + 1) 102 3 (.slice (some ⟨w.heap.size + 1, 0, none⟩) 0 0) 0 (spvalsN []) from ho0)
  have HG := Lib.hid ((Below.heap_alloc (w.alloc (.cells #[.slice A1 n1 c1, .slice A2 n2 c2, .slice A3 L.length c3] 26 (0, 0))) (.cells #[] 102 (0, 0)) w.heap.size (by simp)).trans (newS w (.cells #[.slice A1 n1 c1, .slice A2 n2 c2, .slice A3 L.length c3] 26 (0, 0))))
  have HB := Lib.hid (balloc (o := (.cells #[] 102 (0, 0))) (balloc (o := (.cells #[.slice A1 n1 c1, .slice A2 n2 c2, .slice A3 L.length c3] 26 (0, 0))) (Below.refl w.heap.size w)))
  clear ho0
  go_enter Try.func47, Try.ntmps47
  go_wp2_with fail
  go_loopw [3, 4] (fun out i wr => ∃ k : Nat, k ≤ L.length ∧ i = .int .i64 k ∧ wr.ownsRow (w.heap.size + 1) 102 3 out k (spvalsN ((L.map dnM).take k)) ∧ wr.heap[w.heap.size]? = some (.cells #[.slice A1 n1 c1, .slice A2 n2 c2, .slice A3 L.length c3] 26 (0, 0)) ∧ Below w.heap.size w wr) (fun _ i _ => L.length - (intOf i).toNat)
  case atStart => exact ⟨0, by omega, rfl, HO.out, HG.out, HB.out⟩
  case round =>
    obtain ⟨k, hk, rfl, ho, hg, hB⟩ := hrel
    clear HO HB HG
    have g2 := cellS hg 2
    by_cases hlt : k < L.length
    · have hd : decide ((k : Int) < (L.length : Int)) = true := by simpa using hlt
      obtain ⟨b, off, rfl, hb, hp⟩ := (h.keep hB).cells (by omega)
      have hget : L[k]? = some L[k] := List.getElem?_eq_getElem hlt
      obtain ⟨d0, d1, d2, d3, d4, d5, d6, d7, d8⟩ := hp k _ hget
      have hsk : smC L[k] := HSM.out _ (List.getElem_mem hlt)
      generalize hx : L[k] = p at *
      have HTS := Lib.hid (spvalsN_succ (show (L.map dnM)[k]? = some (dnM p) by rw [List.getElem?_map, hget]; rfl))
      have hob := ho.lt
      have HO := Lib.hid ho
      have HB := Lib.hid hB
      have HG := Lib.hid hg
      clear ho hB hg hp hget hx
      go_upto_region 6 with (fail)
      refine wp_genGG (fun W => W.heap[wr.heap.size]? = some (.cells #[.int .i64 p.co, .int .i64 p.ro, .int .i64 p.mc, .int .i64 p.mr, .int .i64 p.cw, .int .i64 p.ch, .int .i64 p.sk, .int .i64 p.px, .int .i64 p.py] 37 (0, 0)) ∧ Below wr.heap.size wr W) ⟨newS _ _, balloc (Below.refl _ _)⟩ (fun W h0 => ?_)
      clear d0 d1 d2 d3 d4 d5 d6 d7 d8 g2
      obtain ⟨hx, hbW⟩ := h0
      have x0 := cellS hx 1
      have x1 := cellS hx 3
      have x2 := cellS hx 5
      have x3 := cellS hx 8
      have hlg := ltS HG.out
      have hsW := hbW.size
      replace HO := Lib.hid (own_belowN HO.out hbW)
      replace HG := Lib.hid ((hbW.block _ hlg).trans HG.out)
      replace HB := Lib.hid (bkeep2 HB.out hbW)
      obtain ⟨⟨b1, b2⟩, ⟨b3, b4⟩, ⟨b5, b6⟩, ⟨b7, b8⟩⟩ := hsk
      clear hx hbW
      go_wp2_with (at_builtin; refine wpList_append_own _ rfl _ _ 74 rfl (w.heap.size + 1) 102 ti tz 3 24 Try.underlying74 ti1 ti2 ti3 ti4 ti5 (by decide) _ _ _ rfl (HO.out.alloc _) ⟨W.heap.size, 0, none⟩ 1 1 (valsSp (dnM p)) rfl rfl (newSp3 _ (dnM p) _) (valsSp_one _) (by simp only [maxLen]; omega) (by omega) (by simp; omega) ?_)
      intro v5 w5 how5 hgr5 _
      rw [HTS.out] at how5
      have hg5 := (hgr5.block w.heap.size (by simp; omega) (fun e => by have := hob _ e.symm; omega)).trans ((Below.heap_alloc _ _ _ (by omega)).trans HG.out)
      replace HB := Lib.hid (below_own HB.out hgr5 hob (by omega) (Nat.le_refl _))
      replace HO := Lib.hid how5
      replace HG := Lib.hid hg5
      clear how5 hgr5 hob x0 x1 x2 x3 hg5
      go_wp2
      go_roundw
      case rel => exact ⟨k + 1, by omega, by go_num, by simpa using HO.out, HG.out, HB.out⟩
      case measure => simp [intOf]; omega
    · have hd : decide ((k : Int) < (L.length : Int)) = false := decide_eq_false (by omega)
      obtain rfl : k = L.length := by omega
      have he : (L.map dnM).take L.length = L.map dnM := List.take_of_length_le (by simp)
      rw [he] at ho
      have HR := Lib.hid (SpR.own ho (by simp))
      have HB := Lib.hid hB
      clear ho hB he hg
      go_wp2
      go_ret
      exact ⟨⟨_, rfl, HR.out⟩, HB.out⟩
end Go.Proofs.Ytikndbinlpmgaaa
end
section
namespace Go.Proofs.Ytikndbinlpmgaaa
open Go.RowKit
set_option linter.unusedVariables false
set_option maxHeartbeats 1000000
theorem shrZ_len (L : List Ln) : ∀ (f : Nat) (n : Int) (O : List Int), n.toNat ≤ f → (shrZ L n O).length = O.length
  | 0, n, O, hf => by rw [shr_end (.inl (by omega))]
  | f + 1, n, O, hf => by
    rw [shrZ]
    split
    · rename_i hh
      rw [shrZ_len L f _ _ (by omega), takZ_len]
    · rfl
theorem sizedM_len {L : List Ln} {S : List Sp} {room : Int} (hL : linesB L = true) (hS : spansB L.length S = true) : (sizedM L S room).length = L.length := by
  have h := wishM_len hL hS
  unfold sizedM
  split
  · rw [shrZ_len L _ _ _ (Nat.le_refl _), h]
  · split
    · exact h
    · rw [addAt_len, h]
end Go.Proofs.Ytikndbinlpmgaaa
end
section
namespace Go.Proofs.Ytikndbinlpmgaaa
open Go Go.RowKit
set_option linter.unusedVariables false
section
variable {P : Program}
def XV (u : Value) : Value → World → Prop := fun v _ => v = u
def XT : Value → World → Prop := fun _ _ => True
/-- what stays true when memory is made -/
def Stay (T : Value → World → Prop) : Prop := ∀ v a b, T v a → Gr a b → T v b
theorem stay_V (u : Value) : Stay (XV u) := fun _ _ _ h _ => h
theorem stay_T : Stay XT := fun _ _ _ _ _ => trivial
theorem stay_of {F : Value → World → Prop} (h : ∀ v a b, F v a → Below a.heap.size a b → F v b) : Stay F := fun v a b x g => h v a b x g.out
theorem stay_list {l : List (Value → World → Prop)} (h : ∀ T ∈ l, Stay T) : ∀ k v a b, (l.getD k XT) v a → Gr a b → (l.getD k XT) v b := by
  intro k v a b hv g
  rw [List.getD_eq_getElem?_getD] at *
  cases hk : l[k]? with
  | none => trivial
  | some T => rw [hk] at hv; exact h T (List.mem_of_getElem? hk) v a b hv g
def GIx (_ : Nat) (_ : World) : Prop := True
theorem gx_gen {K : Value → World → Prop} {r : Result Next} (h : ∀ K' : Value → World → Prop, (∀ v w', K v w' → K' v w') → givesUpon P K' r) : givesUpon P K r := h K fun _ _ h => h
theorem lookD_imp {T : Nat → Value → World → Prop} {a0 a : Act} {w : World} {G G' : Prop} (hG : G → G') : ∀ {ds : List (Tmp × Option Nat)}, lookD T a0 a w ds G → lookD T a0 a w ds G'
  | [], h => hG h
  | (t, some j) :: r, h => fun x => lookD_imp (ds := r) hG (h x)
  | (t, none) :: r, h => fun x => lookD_imp (ds := r) hG (h x)
theorem givesUpon_imp {K K' : Value → World → Prop} (hK : ∀ v w, K v w → K' v w) {r : Result Next} (h : givesUpon P K r) : givesUpon P K' r := by
  unfold givesUpon at *
  split at h
  · exact hK _ _ h
  · exact hK _ _ h
  · exact h.mono fun e w' ⟨v, e1, e2⟩ => ⟨v, e1, hK _ _ e2⟩
  · exact h.elim
theorem opOK_rx {ops : List Oper} {T : Nat → Value → World → Prop} {a0 : Act} {w0 : World} {k : Nat} {o : Oper} (ds : List (Tmp × Option Nat)) (hB : dsB ops o ds = true) (hg : o.guard = none)
    (h : ∀ (a : Act) (w : World), Gr w0 w → lookD T a0 a w ds (givesUpon P (fun v w' => T k v w' ∧ Gr w w') ((execOp a.eval o).run P w))) : opOK P ops T Gr GIx a0 w0 k o :=
  opOK_ds ds hB hg fun m a w _ hR _ => lookD_imp (fun x => givesUpon_imp (fun v w' ⟨h1, h2⟩ => ⟨h1, h2, trivial⟩) x) (h a w hR)
theorem wp_region_rx {id : Nat} {l : List Oper} {Q : Exit → Act → World → Prop} {a0 : Act} {w : World} (tl : List (Value → World → Prop))
    (hm : P.follows .mixedOrders = true) (hB : rgB l a0.tmps.size = true) (hTs : ∀ T ∈ tl, Stay T)
    (hops : opsOK P l (fun k => tl.getD k XT) Gr GIx a0 w.drew l 0) (hfin : ∀ w', Gr w.drew w' → finP (fun k => tl.getD k XT) w' (fun a' => Q .normal a' w') l 0 a0) : (Code.region id l.toArray true).wp P Q a0 w :=
  wp_region_rgl (fun k => tl.getD k XT) Gr GIx hm hB Gr.refl (fun _ _ _ h k => h.trans k) (stay_list hTs) trivial hops fun w' h _ => hfin w' h
end
end Go.Proofs.Ytikndbinlpmgaaa
end
section
namespace Go.Proofs.Ytikndbinlpmgaaa
open Go.RowKit
set_option linter.unusedVariables false
set_option maxHeartbeats 1000000
attribute [local go_sem] growUpon_value growUpon_skip growUpon_enter
attribute [local go_sem] givesUpon_value givesUpon_skip givesUpon_enter
theorem wish_smal {L : List Ln} {S : List Sp} (hL : linesB L = true) (hS : spansB L.length S = true) : Smal 1000000000 (wishM L S) ∧ (wishM L S).length ≤ 5 := by
  obtain ⟨-, hl, hx, -, -⟩ := wish_ok hL hS
  have h5 := (linesB_len hL).2
  refine ⟨smal_of (b := 1000000) (fun x h => ⟨by have := (hx x h).1; omega, (hx x h).2⟩) (by omega) ?_, by omega⟩
  rw [hl]; omega
def NRz (w : World) (v : Value) (n : Nat) (L : List Int) : Prop := ∃ A c, v = .slice A n c ∧ NV w A L
theorem NRz.keep {w w' : World} {v : Value} {n : Nat} {L : List Int} (h : NRz w v n L) (hb : Below w.heap.size w w') : NRz w' v n L := let ⟨A, c, e, q⟩ := h; ⟨A, c, e, q.keep hb⟩
set_option maxRecDepth 100000 in
theorem gridRequest_v (A1 : Option Addr) (c1 : Nat) (L1 : List Ln) (A2 : Option Addr) (c2 : Nat) (L2 : List Ln) (A3 : Option Addr) (c3 : Nat) (L3 : List Ce) (w : World) (h1 : LnV w A1 L1) (h2 : LnV w A2 L2) (h3 : CeV w A3 L3) (hg : gridB L1 L2 L3 = true) :
    Calls Try.prog 37 #[.agg #[.slice A1 L1.length c1, .slice A2 L2.length c2, .slice A3 L3.length c3]] w fun e w' => e = .returned (.tuple #[.int .i64 (sumI (wishM L1 (L3.map acM))), .int .i64 (sumI (wishM L2 (L3.map dnM)))]) ∧ Below w.heap.size w w' := by
  obtain ⟨v1, v2, hl8, hsm, hs1, hs2⟩ := gridB_yes hg
  obtain ⟨m1, n1⟩ := wish_smal v1 hs1
  obtain ⟨m2, n2⟩ := wish_smal v2 hs2
  have q1 := wishM_len v1 hs1
  have q2 := wishM_len v2 hs2
  have hB0 : Below w.heap.size w (w.alloc (.cells #[.slice A1 L1.length c1, .slice A2 L2.length c2, .slice A3 L3.length c3] 26 (0, 0))) := balloc (Below.refl _ _)
  have hx0 := newS w (.cells #[.slice A1 L1.length c1, .slice A2 L2.length c2, .slice A3 L3.length c3] 26 (0, 0))
  have HV1 := Lib.hid (h1.keep hB0)
  have HV2 := Lib.hid (h2.keep hB0)
  have HV3 := Lib.hid (h3.keep hB0)
  have HX := Lib.hid hx0
  have HB := Lib.hid hB0
  have HS1 := Lib.hid v1
  have HS2 := Lib.hid v2
  have HM1 := Lib.hid m1
  have HM2 := Lib.hid m2
  have HSM := Lib.hid hsm
  have HK1 := Lib.hid hs1
  have HK2 := Lib.hid hs2
  have HL1 := Lib.hid q1
  have HL2 := Lib.hid q2
  clear hB0 hx0 h1 h2 h3 v1 v2 m1 m2 hsm hs1 hs2 q1 q2 hg
  go_enter Try.func37, Try.ntmps37
  have d0 := cellS HX.out 0
  have d1 := cellS HX.out 1
  have d2 := cellS HX.out 2
  have lx := ltS HX.out
  go_wp2_with fail
  refine wp_region_rx (XV (.pointer (some ⟨w.heap.size, 0, none⟩)) :: XV (.slice A1 L1.length c1) :: XV (.pointer (some ⟨w.heap.size, 2, none⟩)) :: XV (.slice A3 L3.length c3) :: (fun v w => SpR w v (L3.map acM)) :: (fun v w => NRz w v L1.length (wishM L1 (L3.map acM))) :: (fun v w => NRz w v L1.length (wishM L1 (L3.map acM))) :: []) (by kernel_rfl) (by kernel_rfl) ?hTs ?hops ?hfin
  case hTs =>
    intro T hT
    simp only [List.mem_cons, List.not_mem_nil, or_false] at hT
    rcases hT with rfl | rfl | rfl | rfl | rfl | rfl | rfl <;> first | exact stay_V _ | exact stay_T | exact stay_of (fun v a b x g => x.keep g) | exact stay_of (fun v a b x g => x)
  case hops =>
    refine ⟨opOK_rx [(1, none)] (by kernel_rfl) rfl ?_, ?_⟩
    · intro act w' hw' h1
      have hk : ∀ v, act.eval (.const v) = v := fun _ => rfl
      have hf : ∀ f, act.eval (.func f) = .func (.func f) #[] #[] := fun _ => rfl
      generalize act.eval = ρ at *
      replace h1 : ρ (.tmp 1) = .pointer (some ⟨w.heap.size, 0, none⟩) := h1
      refine gx_gen (fun K hK => ?_)
      obtain ⟨hc, hf'⟩ := bcell (bdrewn hw'.out)
      go_simp
      exact hK _ _ ⟨rfl, Gr.refl _⟩
    refine ⟨opOK_rx [(6, some 0)] (by kernel_rfl) rfl ?_, ?_⟩
    · intro act w' hw' h1
      have hk : ∀ v, act.eval (.const v) = v := fun _ => rfl
      have hf : ∀ f, act.eval (.func f) = .func (.func f) #[] #[] := fun _ => rfl
      generalize act.eval = ρ at *
      replace h1 : ρ (.tmp 6) = .pointer (some ⟨w.heap.size, 0, none⟩) := h1
      refine gx_gen (fun K hK => ?_)
      obtain ⟨hc, hf'⟩ := bcell (bdrewn hw'.out)
      go_simp
      exact hK _ _ ⟨rfl, Gr.refl _⟩
    refine ⟨opOK_rx [(1, none)] (by kernel_rfl) rfl ?_, ?_⟩
    · intro act w' hw' h1
      have hk : ∀ v, act.eval (.const v) = v := fun _ => rfl
      have hf : ∀ f, act.eval (.func f) = .func (.func f) #[] #[] := fun _ => rfl
      generalize act.eval = ρ at *
      replace h1 : ρ (.tmp 1) = .pointer (some ⟨w.heap.size, 0, none⟩) := h1
      refine gx_gen (fun K hK => ?_)
      obtain ⟨hc, hf'⟩ := bcell (bdrewn hw'.out)
      go_simp
      exact hK _ _ ⟨rfl, Gr.refl _⟩
    refine ⟨opOK_rx [(8, some 2)] (by kernel_rfl) rfl ?_, ?_⟩
    · intro act w' hw' h1
      have hk : ∀ v, act.eval (.const v) = v := fun _ => rfl
      have hf : ∀ f, act.eval (.func f) = .func (.func f) #[] #[] := fun _ => rfl
      generalize act.eval = ρ at *
      replace h1 : ρ (.tmp 8) = .pointer (some ⟨w.heap.size, 2, none⟩) := h1
      refine gx_gen (fun K hK => ?_)
      obtain ⟨hc, hf'⟩ := bcell (bdrewn hw'.out)
      go_simp
      exact hK _ _ ⟨rfl, Gr.refl _⟩
    refine ⟨opOK_rx [(9, some 3)] (by kernel_rfl) rfl ?_, ?_⟩
    · intro act w' hw' h1
      have hk : ∀ v, act.eval (.const v) = v := fun _ => rfl
      have hf : ∀ f, act.eval (.func f) = .func (.func f) #[] #[] := fun _ => rfl
      generalize act.eval = ρ at *
      replace h1 : ρ (.tmp 9) = .slice A3 L3.length c3 := h1
      refine gx_gen (fun K hK => ?_)
      obtain ⟨hc, hf'⟩ := bcell (bdrewn hw'.out)
      go_simp
      (with_reducible refine (each_across A3 c3 L3 _ (HV3.out.keep (bdrewn hw'.out)) (by omega) HSM.out).mono ?_); rintro e w1 ⟨rfl, hr1, hb1⟩; exact ⟨_, rfl, hK _ _ ⟨⟨_, _, by rw [List.length_map], hr1.v⟩, hb1⟩⟩
    refine ⟨opOK_rx [(7, some 1), (10, some 4)] (by kernel_rfl) rfl ?_, ?_⟩
    · intro act w' hw' h1 h2
      have hk : ∀ v, act.eval (.const v) = v := fun _ => rfl
      have hf : ∀ f, act.eval (.func f) = .func (.func f) #[] #[] := fun _ => rfl
      generalize act.eval = ρ at *
      replace h1 : ρ (.tmp 7) = .slice A1 L1.length c1 := h1
      replace h2 : (fun v w => SpR w v (L3.map acM)) (ρ (.tmp 10)) w' := h2
      refine gx_gen (fun K hK => ?_)
      obtain ⟨hc, hf'⟩ := bcell (bdrewn hw'.out)
      go_simp
      obtain ⟨A, c, e, hs⟩ := h2; rw [e]; (with_reducible refine (lineRequests_v A1 c1 L1 A c (L3.map acM) _ (HV1.out.keep (bdrewn hw'.out)) HS1.out hs HK1.out).mono ?_); rintro e w1 ⟨rfl, hr1, hb1⟩; exact ⟨_, rfl, hK _ _ ⟨⟨_, _, rfl, hr1.nv⟩, hb1⟩⟩
    refine ⟨opOK_rx [(11, some 5)] (by kernel_rfl) rfl ?_, ?_⟩
    · intro act w' hw' h1
      have hk : ∀ v, act.eval (.const v) = v := fun _ => rfl
      have hf : ∀ f, act.eval (.func f) = .func (.func f) #[] #[] := fun _ => rfl
      generalize act.eval = ρ at *
      replace h1 : (fun v w => NRz w v L1.length (wishM L1 (L3.map acM))) (ρ (.tmp 11)) w' := h1
      refine gx_gen (fun K hK => ?_)
      obtain ⟨hc, hf'⟩ := bcell (bdrewn hw'.out)
      go_simp
      exact hK _ _ ⟨h1, Gr.refl _⟩
    exact trivial
  case hfin =>
    intro w1 hg1
    intro v6 t6
    replace t6 : v6 = .pointer (some ⟨w.heap.size, 0, none⟩) := t6
    subst t6
    intro v7 t7
    replace t7 : v7 = .slice A1 L1.length c1 := t7
    subst t7
    intro v8 t8
    replace t8 : v8 = .pointer (some ⟨w.heap.size, 2, none⟩) := t8
    subst t8
    intro v9 t9
    replace t9 : v9 = .slice A3 L3.length c3 := t9
    subst t9
    intro v10 t10
    replace t10 : (fun v w => SpR w v (L3.map acM)) v10 w1 := t10
    intro v11 t11
    replace t11 : (fun v w => NRz w v L1.length (wishM L1 (L3.map acM))) v11 w1 := t11
    intro v4 t4
    replace t4 : (fun v w => NRz w v L1.length (wishM L1 (L3.map acM))) v4 w1 := t4
    have hb1 := bdrewn hg1.out
    clear hg1
    simp only [finP, Act.put, List.setIfInBounds_toArray, List.set_cons_succ, List.set_cons_zero]
    obtain ⟨B1, e1, rfl, hn1⟩ := t4
    clear t10 t11 d0 d1 d2 lx
    replace HX := Lib.hid ((hb1.block _ (Array.getElem?_eq_some_iff.1 HX.out).1).trans HX.out)
    replace HV1 := Lib.hid (HV1.out.keep hb1)
    replace HV2 := Lib.hid (HV2.out.keep hb1)
    replace HV3 := Lib.hid (HV3.out.keep hb1)
    replace HB := Lib.hid (bkeep2 HB.out hb1)
    clear hb1
    have HN1 := Lib.hid hn1
    clear hn1
    have d0 := cellS HX.out 0
    have d1 := cellS HX.out 1
    have d2 := cellS HX.out 2
    have lx := ltS HX.out
    go_wp2_with fail
    refine wp_region_rx (XV (.pointer (some ⟨w.heap.size, 1, none⟩)) :: XV (.slice A2 L2.length c2) :: XV (.pointer (some ⟨w.heap.size, 2, none⟩)) :: XV (.slice A3 L3.length c3) :: (fun v w => SpR w v (L3.map dnM)) :: (fun v w => NRz w v L2.length (wishM L2 (L3.map dnM))) :: (fun v w => NRz w v L2.length (wishM L2 (L3.map dnM))) :: []) (by kernel_rfl) (by kernel_rfl) ?hTs ?hops ?hfin
    case hTs =>
      intro T hT
      simp only [List.mem_cons, List.not_mem_nil, or_false] at hT
      rcases hT with rfl | rfl | rfl | rfl | rfl | rfl | rfl <;> first | exact stay_V _ | exact stay_T | exact stay_of (fun v a b x g => x.keep g) | exact stay_of (fun v a b x g => x)
    case hops =>
      refine ⟨opOK_rx [(1, none)] (by kernel_rfl) rfl ?_, ?_⟩
      · intro act w' hw' h1
        have hk : ∀ v, act.eval (.const v) = v := fun _ => rfl
        have hf : ∀ f, act.eval (.func f) = .func (.func f) #[] #[] := fun _ => rfl
        generalize act.eval = ρ at *
        replace h1 : ρ (.tmp 1) = .pointer (some ⟨w.heap.size, 0, none⟩) := h1
        refine gx_gen (fun K hK => ?_)
        obtain ⟨hc, hf'⟩ := bcell (bdrewn hw'.out)
        go_simp
        exact hK _ _ ⟨rfl, Gr.refl _⟩
      refine ⟨opOK_rx [(12, some 0)] (by kernel_rfl) rfl ?_, ?_⟩
      · intro act w' hw' h1
        have hk : ∀ v, act.eval (.const v) = v := fun _ => rfl
        have hf : ∀ f, act.eval (.func f) = .func (.func f) #[] #[] := fun _ => rfl
        generalize act.eval = ρ at *
        replace h1 : ρ (.tmp 12) = .pointer (some ⟨w.heap.size, 1, none⟩) := h1
        refine gx_gen (fun K hK => ?_)
        obtain ⟨hc, hf'⟩ := bcell (bdrewn hw'.out)
        go_simp
        exact hK _ _ ⟨rfl, Gr.refl _⟩
      refine ⟨opOK_rx [(1, none)] (by kernel_rfl) rfl ?_, ?_⟩
      · intro act w' hw' h1
        have hk : ∀ v, act.eval (.const v) = v := fun _ => rfl
        have hf : ∀ f, act.eval (.func f) = .func (.func f) #[] #[] := fun _ => rfl
        generalize act.eval = ρ at *
        replace h1 : ρ (.tmp 1) = .pointer (some ⟨w.heap.size, 0, none⟩) := h1
        refine gx_gen (fun K hK => ?_)
        obtain ⟨hc, hf'⟩ := bcell (bdrewn hw'.out)
        go_simp
        exact hK _ _ ⟨rfl, Gr.refl _⟩
      refine ⟨opOK_rx [(14, some 2)] (by kernel_rfl) rfl ?_, ?_⟩
      · intro act w' hw' h1
        have hk : ∀ v, act.eval (.const v) = v := fun _ => rfl
        have hf : ∀ f, act.eval (.func f) = .func (.func f) #[] #[] := fun _ => rfl
        generalize act.eval = ρ at *
        replace h1 : ρ (.tmp 14) = .pointer (some ⟨w.heap.size, 2, none⟩) := h1
        refine gx_gen (fun K hK => ?_)
        obtain ⟨hc, hf'⟩ := bcell (bdrewn hw'.out)
        go_simp
        exact hK _ _ ⟨rfl, Gr.refl _⟩
      refine ⟨opOK_rx [(15, some 3)] (by kernel_rfl) rfl ?_, ?_⟩
      · intro act w' hw' h1
        have hk : ∀ v, act.eval (.const v) = v := fun _ => rfl
        have hf : ∀ f, act.eval (.func f) = .func (.func f) #[] #[] := fun _ => rfl
        generalize act.eval = ρ at *
        replace h1 : ρ (.tmp 15) = .slice A3 L3.length c3 := h1
        refine gx_gen (fun K hK => ?_)
        obtain ⟨hc, hf'⟩ := bcell (bdrewn hw'.out)
        go_simp
        (with_reducible refine (each_down A3 c3 L3 _ (HV3.out.keep (bdrewn hw'.out)) (by omega) HSM.out).mono ?_); rintro e w1 ⟨rfl, hr1, hb1⟩; exact ⟨_, rfl, hK _ _ ⟨⟨_, _, by rw [List.length_map], hr1.v⟩, hb1⟩⟩
      refine ⟨opOK_rx [(13, some 1), (16, some 4)] (by kernel_rfl) rfl ?_, ?_⟩
      · intro act w' hw' h1 h2
        have hk : ∀ v, act.eval (.const v) = v := fun _ => rfl
        have hf : ∀ f, act.eval (.func f) = .func (.func f) #[] #[] := fun _ => rfl
        generalize act.eval = ρ at *
        replace h1 : ρ (.tmp 13) = .slice A2 L2.length c2 := h1
        replace h2 : (fun v w => SpR w v (L3.map dnM)) (ρ (.tmp 16)) w' := h2
        refine gx_gen (fun K hK => ?_)
        obtain ⟨hc, hf'⟩ := bcell (bdrewn hw'.out)
        go_simp
        obtain ⟨A, c, e, hs⟩ := h2; rw [e]; (with_reducible refine (lineRequests_v A2 c2 L2 A c (L3.map dnM) _ (HV2.out.keep (bdrewn hw'.out)) HS2.out hs HK2.out).mono ?_); rintro e w1 ⟨rfl, hr1, hb1⟩; exact ⟨_, rfl, hK _ _ ⟨⟨_, _, rfl, hr1.nv⟩, hb1⟩⟩
      refine ⟨opOK_rx [(17, some 5)] (by kernel_rfl) rfl ?_, ?_⟩
      · intro act w' hw' h1
        have hk : ∀ v, act.eval (.const v) = v := fun _ => rfl
        have hf : ∀ f, act.eval (.func f) = .func (.func f) #[] #[] := fun _ => rfl
        generalize act.eval = ρ at *
        replace h1 : (fun v w => NRz w v L2.length (wishM L2 (L3.map dnM))) (ρ (.tmp 17)) w' := h1
        refine gx_gen (fun K hK => ?_)
        obtain ⟨hc, hf'⟩ := bcell (bdrewn hw'.out)
        go_simp
        exact hK _ _ ⟨h1, Gr.refl _⟩
      exact trivial
    case hfin =>
      intro w2 hg2
      intro v12 t12
      replace t12 : v12 = .pointer (some ⟨w.heap.size, 1, none⟩) := t12
      subst t12
      intro v13 t13
      replace t13 : v13 = .slice A2 L2.length c2 := t13
      subst t13
      intro v14 t14
      replace t14 : v14 = .pointer (some ⟨w.heap.size, 2, none⟩) := t14
      subst t14
      intro v15 t15
      replace t15 : v15 = .slice A3 L3.length c3 := t15
      subst t15
      intro v16 t16
      replace t16 : (fun v w => SpR w v (L3.map dnM)) v16 w2 := t16
      intro v17 t17
      replace t17 : (fun v w => NRz w v L2.length (wishM L2 (L3.map dnM))) v17 w2 := t17
      intro v5 t5
      replace t5 : (fun v w => NRz w v L2.length (wishM L2 (L3.map dnM))) v5 w2 := t5
      have hb2 := bdrewn hg2.out
      clear hg2
      simp only [finP, Act.put, List.setIfInBounds_toArray, List.set_cons_succ, List.set_cons_zero]
      obtain ⟨B2, e2, rfl, hn2⟩ := t5
      clear t16 t17 d0 d1 d2 lx
      replace HX := Lib.hid ((hb2.block _ (Array.getElem?_eq_some_iff.1 HX.out).1).trans HX.out)
      replace HN1 := Lib.hid (HN1.out.keep hb2)
      replace HB := Lib.hid (bkeep2 HB.out hb2)
      clear hb2
      have HN2 := Lib.hid hn2
      clear hn2
      go_wp2_with fail
      with_reducible refine (sum_b B1 e1 L1.length _ _ HN1.out HL1.out.symm (by rw [← HL1.out]; omega) HM1.out).mono ?_
      rintro e w3 ⟨rfl, hb3⟩
      replace HX := Lib.hid ((hb3.block _ (Array.getElem?_eq_some_iff.1 HX.out).1).trans HX.out)
      replace HN2 := Lib.hid (HN2.out.keep hb3)
      replace HB := Lib.hid (bkeep2 HB.out hb3)
      clear hb3
      go_wp2_with fail
      with_reducible refine (sum_b B2 e2 L2.length _ _ HN2.out HL2.out.symm (by rw [← HL2.out]; omega) HM2.out).mono ?_
      rintro e w4 ⟨rfl, hb4⟩
      replace HX := Lib.hid ((hb4.block _ (Array.getElem?_eq_some_iff.1 HX.out).1).trans HX.out)
      replace HB := Lib.hid (bkeep2 HB.out hb4)
      clear hb4
      go_wp2
      exact bodyPost_ret (v := .tuple #[.int .i64 (sumI (wishM L1 (L3.map acM))), .int .i64 (sumI (wishM L2 (L3.map dnM)))]) (by simp only [results, Try.results37]; go_simp) rfl ⟨rfl, HB.out⟩
set_option maxRecDepth 100000 in
theorem sgridRequest_v (A1 : Option Addr) (c1 : Nat) (L1 : List Ln) (A2 : Option Addr) (c2 : Nat) (L2 : List Ln) (A3 : Option Addr) (c3 : Nat) (L3 : List Ce) (w : World) (h1 : LnV w A1 L1) (h2 : LnV w A2 L2) (h3 : CeV w A3 L3) (hg : gridB L1 L2 L3 = true) (k1 : L1.length ≤ c1) (k2 : L2.length ≤ c2) :
    Calls Try.prog 61 #[.agg #[.slice A1 L1.length c1, .slice A2 L2.length c2, .slice A3 L3.length c3]] w fun e w' => e = .returned (.tuple #[.int .i64 (sumI (wishM L1 (L3.map acM))), .int .i64 (sumI (wishM L2 (L3.map dnM)))]) ∧ Below w.heap.size w w' := by
  obtain ⟨v1, v2, hl8, hsm, hs1, hs2⟩ := gridB_yes hg
  obtain ⟨m1, n1⟩ := wish_smal v1 hs1
  obtain ⟨m2, n2⟩ := wish_smal v2 hs2
  have q1 := wishM_len v1 hs1
  have q2 := wishM_len v2 hs2
  have hB0 : Below w.heap.size w (w.alloc (.cells #[.slice A1 L1.length c1, .slice A2 L2.length c2, .slice A3 L3.length c3] 26 (0, 0))) := balloc (Below.refl _ _)
  have hx0 := newS w (.cells #[.slice A1 L1.length c1, .slice A2 L2.length c2, .slice A3 L3.length c3] 26 (0, 0))
  have HV1 := Lib.hid (h1.keep hB0)
  have HV2 := Lib.hid (h2.keep hB0)
  have HV3 := Lib.hid (h3.keep hB0)
  have HX := Lib.hid hx0
  have HB := Lib.hid hB0
  have HS1 := Lib.hid v1
  have HS2 := Lib.hid v2
  have HM1 := Lib.hid m1
  have HM2 := Lib.hid m2
  have HSM := Lib.hid hsm
  have HK1 := Lib.hid hs1
  have HK2 := Lib.hid hs2
  have HL1 := Lib.hid q1
  have HL2 := Lib.hid q2
  clear hB0 hx0 h1 h2 h3 v1 v2 m1 m2 hsm hs1 hs2 q1 q2 hg
  go_enter Try.func61, Try.ntmps61
  have d0 := cellS HX.out 0
  have d1 := cellS HX.out 1
  have d2 := cellS HX.out 2
  have lx := ltS HX.out
  go_wp2_with fail
  refine wp_region_rx (XV (.pointer (some ⟨w.heap.size, 0, none⟩)) :: XV (.slice A1 L1.length c1) :: XV (.agg #[.slice A1 L1.length c1, .slice A2 L2.length c2, .slice A3 L3.length c3]) :: (fun v w => SpR w v (L3.map acM)) :: (fun v w => NRz w v L1.length (wishM L1 (L3.map acM))) :: XV (.int .i64 (sumI (wishM L1 (L3.map acM)))) :: XV (.pointer (some ⟨w.heap.size, 1, none⟩)) :: XV (.slice A2 L2.length c2) :: XV (.agg #[.slice A1 L1.length c1, .slice A2 L2.length c2, .slice A3 L3.length c3]) :: (fun v w => SpR w v (L3.map dnM)) :: (fun v w => NRz w v L2.length (wishM L2 (L3.map dnM))) :: XV (.int .i64 (sumI (wishM L2 (L3.map dnM)))) :: XV (.int .i64 (sumI (wishM L1 (L3.map acM)))) :: XV (.int .i64 (sumI (wishM L2 (L3.map dnM)))) :: []) (by kernel_rfl) (by kernel_rfl) ?hTs ?hops ?hfin
  case hTs =>
    intro T hT
    simp only [List.mem_cons, List.not_mem_nil, or_false] at hT
    rcases hT with rfl | rfl | rfl | rfl | rfl | rfl | rfl | rfl | rfl | rfl | rfl | rfl | rfl | rfl <;> first | exact stay_V _ | exact stay_T | exact stay_of (fun v a b x g => x.keep g) | exact stay_of (fun v a b x g => x)
  case hops =>
    refine ⟨opOK_rx [(1, none)] (by kernel_rfl) rfl ?_, ?_⟩
    · intro act w' hw' h1
      have hk : ∀ v, act.eval (.const v) = v := fun _ => rfl
      have hf : ∀ f, act.eval (.func f) = .func (.func f) #[] #[] := fun _ => rfl
      generalize act.eval = ρ at *
      replace h1 : ρ (.tmp 1) = .pointer (some ⟨w.heap.size, 0, none⟩) := h1
      refine gx_gen (fun K hK => ?_)
      obtain ⟨hc, hf'⟩ := bcell (bdrewn hw'.out)
      go_simp
      exact hK _ _ ⟨rfl, Gr.refl _⟩
    refine ⟨opOK_rx [(4, some 0)] (by kernel_rfl) rfl ?_, ?_⟩
    · intro act w' hw' h1
      have hk : ∀ v, act.eval (.const v) = v := fun _ => rfl
      have hf : ∀ f, act.eval (.func f) = .func (.func f) #[] #[] := fun _ => rfl
      generalize act.eval = ρ at *
      replace h1 : ρ (.tmp 4) = .pointer (some ⟨w.heap.size, 0, none⟩) := h1
      refine gx_gen (fun K hK => ?_)
      obtain ⟨hc, hf'⟩ := bcell (bdrewn hw'.out)
      go_simp
      exact hK _ _ ⟨rfl, Gr.refl _⟩
    refine ⟨opOK_rx [(1, none)] (by kernel_rfl) rfl ?_, ?_⟩
    · intro act w' hw' h1
      have hk : ∀ v, act.eval (.const v) = v := fun _ => rfl
      have hf : ∀ f, act.eval (.func f) = .func (.func f) #[] #[] := fun _ => rfl
      generalize act.eval = ρ at *
      replace h1 : ρ (.tmp 1) = .pointer (some ⟨w.heap.size, 0, none⟩) := h1
      refine gx_gen (fun K hK => ?_)
      obtain ⟨hc, hf'⟩ := bcell (bdrewn hw'.out)
      go_simp
      exact hK _ _ ⟨rfl, Gr.refl _⟩
    refine ⟨opOK_rx [(6, some 2)] (by kernel_rfl) rfl ?_, ?_⟩
    · intro act w' hw' h1
      have hk : ∀ v, act.eval (.const v) = v := fun _ => rfl
      have hf : ∀ f, act.eval (.func f) = .func (.func f) #[] #[] := fun _ => rfl
      generalize act.eval = ρ at *
      replace h1 : ρ (.tmp 6) = .agg #[.slice A1 L1.length c1, .slice A2 L2.length c2, .slice A3 L3.length c3] := h1
      refine gx_gen (fun K hK => ?_)
      obtain ⟨hc, hf'⟩ := bcell (bdrewn hw'.out)
      go_simp
      (with_reducible refine (colSpans_v A1 A2 A3 c1 L1.length c2 L2.length c3 L3 _ (HV3.out.keep (bdrewn hw'.out)) hl8 HSM.out).mono ?_); rintro e w1 ⟨⟨v, rfl, hr1⟩, hb1⟩; exact ⟨_, rfl, hK _ _ ⟨hr1, hb1⟩⟩
    refine ⟨opOK_rx [(5, some 1), (7, some 3)] (by kernel_rfl) rfl ?_, ?_⟩
    · intro act w' hw' h1 h2
      have hk : ∀ v, act.eval (.const v) = v := fun _ => rfl
      have hf : ∀ f, act.eval (.func f) = .func (.func f) #[] #[] := fun _ => rfl
      generalize act.eval = ρ at *
      replace h1 : ρ (.tmp 5) = .slice A1 L1.length c1 := h1
      replace h2 : (fun v w => SpR w v (L3.map acM)) (ρ (.tmp 7)) w' := h2
      refine gx_gen (fun K hK => ?_)
      obtain ⟨hc, hf'⟩ := bcell (bdrewn hw'.out)
      go_simp
      obtain ⟨A, c, e, hs⟩ := h2; rw [e]; (with_reducible refine (wished_v A1 c1 L1 A c (L3.map acM) _ (HV1.out.keep (bdrewn hw'.out)) HS1.out hs HK1.out k1).mono ?_); rintro e w1 ⟨⟨g, cap, rfl, _, hr1⟩, hb1⟩; exact ⟨_, rfl, hK _ _ ⟨⟨_, _, rfl, hr1.nv⟩, hb1⟩⟩
    refine ⟨opOK_rx [(8, some 4)] (by kernel_rfl) rfl ?_, ?_⟩
    · intro act w' hw' h1
      have hk : ∀ v, act.eval (.const v) = v := fun _ => rfl
      have hf : ∀ f, act.eval (.func f) = .func (.func f) #[] #[] := fun _ => rfl
      generalize act.eval = ρ at *
      replace h1 : (fun v w => NRz w v L1.length (wishM L1 (L3.map acM))) (ρ (.tmp 8)) w' := h1
      refine gx_gen (fun K hK => ?_)
      obtain ⟨hc, hf'⟩ := bcell (bdrewn hw'.out)
      go_simp
      obtain ⟨A, c, e, hs⟩ := h1; rw [e]; (with_reducible refine (total_b A c L1.length _ _ hs HL1.out.symm (by rw [← HL1.out]; omega) HM1.out).mono ?_); rintro e w1 ⟨rfl, hb1⟩; exact ⟨_, rfl, hK _ _ ⟨rfl, hb1⟩⟩
    refine ⟨opOK_rx [(1, none)] (by kernel_rfl) rfl ?_, ?_⟩
    · intro act w' hw' h1
      have hk : ∀ v, act.eval (.const v) = v := fun _ => rfl
      have hf : ∀ f, act.eval (.func f) = .func (.func f) #[] #[] := fun _ => rfl
      generalize act.eval = ρ at *
      replace h1 : ρ (.tmp 1) = .pointer (some ⟨w.heap.size, 0, none⟩) := h1
      refine gx_gen (fun K hK => ?_)
      obtain ⟨hc, hf'⟩ := bcell (bdrewn hw'.out)
      go_simp
      exact hK _ _ ⟨rfl, Gr.refl _⟩
    refine ⟨opOK_rx [(10, some 6)] (by kernel_rfl) rfl ?_, ?_⟩
    · intro act w' hw' h1
      have hk : ∀ v, act.eval (.const v) = v := fun _ => rfl
      have hf : ∀ f, act.eval (.func f) = .func (.func f) #[] #[] := fun _ => rfl
      generalize act.eval = ρ at *
      replace h1 : ρ (.tmp 10) = .pointer (some ⟨w.heap.size, 1, none⟩) := h1
      refine gx_gen (fun K hK => ?_)
      obtain ⟨hc, hf'⟩ := bcell (bdrewn hw'.out)
      go_simp
      exact hK _ _ ⟨rfl, Gr.refl _⟩
    refine ⟨opOK_rx [(1, none)] (by kernel_rfl) rfl ?_, ?_⟩
    · intro act w' hw' h1
      have hk : ∀ v, act.eval (.const v) = v := fun _ => rfl
      have hf : ∀ f, act.eval (.func f) = .func (.func f) #[] #[] := fun _ => rfl
      generalize act.eval = ρ at *
      replace h1 : ρ (.tmp 1) = .pointer (some ⟨w.heap.size, 0, none⟩) := h1
      refine gx_gen (fun K hK => ?_)
      obtain ⟨hc, hf'⟩ := bcell (bdrewn hw'.out)
      go_simp
      exact hK _ _ ⟨rfl, Gr.refl _⟩
    refine ⟨opOK_rx [(12, some 8)] (by kernel_rfl) rfl ?_, ?_⟩
    · intro act w' hw' h1
      have hk : ∀ v, act.eval (.const v) = v := fun _ => rfl
      have hf : ∀ f, act.eval (.func f) = .func (.func f) #[] #[] := fun _ => rfl
      generalize act.eval = ρ at *
      replace h1 : ρ (.tmp 12) = .agg #[.slice A1 L1.length c1, .slice A2 L2.length c2, .slice A3 L3.length c3] := h1
      refine gx_gen (fun K hK => ?_)
      obtain ⟨hc, hf'⟩ := bcell (bdrewn hw'.out)
      go_simp
      (with_reducible refine (rowSpans_v A1 A2 A3 c1 L1.length c2 L2.length c3 L3 _ (HV3.out.keep (bdrewn hw'.out)) hl8 HSM.out).mono ?_); rintro e w1 ⟨⟨v, rfl, hr1⟩, hb1⟩; exact ⟨_, rfl, hK _ _ ⟨hr1, hb1⟩⟩
    refine ⟨opOK_rx [(11, some 7), (13, some 9)] (by kernel_rfl) rfl ?_, ?_⟩
    · intro act w' hw' h1 h2
      have hk : ∀ v, act.eval (.const v) = v := fun _ => rfl
      have hf : ∀ f, act.eval (.func f) = .func (.func f) #[] #[] := fun _ => rfl
      generalize act.eval = ρ at *
      replace h1 : ρ (.tmp 11) = .slice A2 L2.length c2 := h1
      replace h2 : (fun v w => SpR w v (L3.map dnM)) (ρ (.tmp 13)) w' := h2
      refine gx_gen (fun K hK => ?_)
      obtain ⟨hc, hf'⟩ := bcell (bdrewn hw'.out)
      go_simp
      obtain ⟨A, c, e, hs⟩ := h2; rw [e]; (with_reducible refine (wished_v A2 c2 L2 A c (L3.map dnM) _ (HV2.out.keep (bdrewn hw'.out)) HS2.out hs HK2.out k2).mono ?_); rintro e w1 ⟨⟨g, cap, rfl, _, hr1⟩, hb1⟩; exact ⟨_, rfl, hK _ _ ⟨⟨_, _, rfl, hr1.nv⟩, hb1⟩⟩
    refine ⟨opOK_rx [(14, some 10)] (by kernel_rfl) rfl ?_, ?_⟩
    · intro act w' hw' h1
      have hk : ∀ v, act.eval (.const v) = v := fun _ => rfl
      have hf : ∀ f, act.eval (.func f) = .func (.func f) #[] #[] := fun _ => rfl
      generalize act.eval = ρ at *
      replace h1 : (fun v w => NRz w v L2.length (wishM L2 (L3.map dnM))) (ρ (.tmp 14)) w' := h1
      refine gx_gen (fun K hK => ?_)
      obtain ⟨hc, hf'⟩ := bcell (bdrewn hw'.out)
      go_simp
      obtain ⟨A, c, e, hs⟩ := h1; rw [e]; (with_reducible refine (total_b A c L2.length _ _ hs HL2.out.symm (by rw [← HL2.out]; omega) HM2.out).mono ?_); rintro e w1 ⟨rfl, hb1⟩; exact ⟨_, rfl, hK _ _ ⟨rfl, hb1⟩⟩
    refine ⟨opOK_rx [(9, some 5)] (by kernel_rfl) rfl ?_, ?_⟩
    · intro act w' hw' h1
      have hk : ∀ v, act.eval (.const v) = v := fun _ => rfl
      have hf : ∀ f, act.eval (.func f) = .func (.func f) #[] #[] := fun _ => rfl
      generalize act.eval = ρ at *
      replace h1 : ρ (.tmp 9) = .int .i64 (sumI (wishM L1 (L3.map acM))) := h1
      refine gx_gen (fun K hK => ?_)
      obtain ⟨hc, hf'⟩ := bcell (bdrewn hw'.out)
      go_simp
      exact hK _ _ ⟨rfl, Gr.refl _⟩
    refine ⟨opOK_rx [(15, some 11)] (by kernel_rfl) rfl ?_, ?_⟩
    · intro act w' hw' h1
      have hk : ∀ v, act.eval (.const v) = v := fun _ => rfl
      have hf : ∀ f, act.eval (.func f) = .func (.func f) #[] #[] := fun _ => rfl
      generalize act.eval = ρ at *
      replace h1 : ρ (.tmp 15) = .int .i64 (sumI (wishM L2 (L3.map dnM))) := h1
      refine gx_gen (fun K hK => ?_)
      obtain ⟨hc, hf'⟩ := bcell (bdrewn hw'.out)
      go_simp
      exact hK _ _ ⟨rfl, Gr.refl _⟩
    exact trivial
  case hfin =>
    intro w1 hg1
    intro v4 t4
    replace t4 : v4 = .pointer (some ⟨w.heap.size, 0, none⟩) := t4
    subst t4
    intro v5 t5
    replace t5 : v5 = .slice A1 L1.length c1 := t5
    subst t5
    intro v6 t6
    replace t6 : v6 = .agg #[.slice A1 L1.length c1, .slice A2 L2.length c2, .slice A3 L3.length c3] := t6
    subst t6
    intro v7 t7
    replace t7 : (fun v w => SpR w v (L3.map acM)) v7 w1 := t7
    intro v8 t8
    replace t8 : (fun v w => NRz w v L1.length (wishM L1 (L3.map acM))) v8 w1 := t8
    intro v9 t9
    replace t9 : v9 = .int .i64 (sumI (wishM L1 (L3.map acM))) := t9
    subst t9
    intro v10 t10
    replace t10 : v10 = .pointer (some ⟨w.heap.size, 1, none⟩) := t10
    subst t10
    intro v11 t11
    replace t11 : v11 = .slice A2 L2.length c2 := t11
    subst t11
    intro v12 t12
    replace t12 : v12 = .agg #[.slice A1 L1.length c1, .slice A2 L2.length c2, .slice A3 L3.length c3] := t12
    subst t12
    intro v13 t13
    replace t13 : (fun v w => SpR w v (L3.map dnM)) v13 w1 := t13
    intro v14 t14
    replace t14 : (fun v w => NRz w v L2.length (wishM L2 (L3.map dnM))) v14 w1 := t14
    intro v15 t15
    replace t15 : v15 = .int .i64 (sumI (wishM L2 (L3.map dnM))) := t15
    subst t15
    intro v2 t2
    replace t2 : v2 = .int .i64 (sumI (wishM L1 (L3.map acM))) := t2
    subst t2
    intro v3 t3
    replace t3 : v3 = .int .i64 (sumI (wishM L2 (L3.map dnM))) := t3
    subst t3
    have hb1 := bdrewn hg1.out
    clear hg1
    simp only [finP, Act.put, List.setIfInBounds_toArray, List.set_cons_succ, List.set_cons_zero]
    clear t7 t8 t13 t14 d0 d1 d2 lx
    replace HX := Lib.hid ((hb1.block _ (Array.getElem?_eq_some_iff.1 HX.out).1).trans HX.out)
    replace HB := Lib.hid (bkeep2 HB.out hb1)
    clear hb1
    go_wp2
    exact bodyPost_ret (v := .tuple #[.int .i64 (sumI (wishM L1 (L3.map acM))), .int .i64 (sumI (wishM L2 (L3.map dnM)))]) (by simp only [results, Try.results61]; go_simp) rfl ⟨rfl, HB.out⟩
/-- what a grid asks for -/
def gqM (L1 L2 : List Ln) (L3 : List Ce) : Int × Int := if gridB L1 L2 L3 = true then (sumI (wishM L1 (L3.map acM)), sumI (wishM L2 (L3.map dnM))) else (-1, -1)
theorem gq_bd (L1 L2 : List Ln) (L3 : List Ce) : (-1 ≤ (gqM L1 L2 L3).1 ∧ (gqM L1 L2 L3).1 ≤ 2150) ∧ (-1 ≤ (gqM L1 L2 L3).2 ∧ (gqM L1 L2 L3).2 ≤ 2150) := by
  unfold gqM
  split
  · rename_i hg
    obtain ⟨v1, v2, hl8, hsm, hs1, hs2⟩ := gridB_yes hg
    have h1 := wish_ok v1 hs1
    have h2 := wish_ok v2 hs2
    simp only
    omega
  · simp
set_option maxRecDepth 100000 in
theorem GridRequest_v (A1 : Option Addr) (c1 : Nat) (L1 : List Ln) (A2 : Option Addr) (c2 : Nat) (L2 : List Ln) (A3 : Option Addr) (c3 : Nat) (L3 : List Ce) (w : World) (h1 : LnV w A1 L1) (h2 : LnV w A2 L2) (h3 : CeV w A3 L3) (k1 : L1.length ≤ 1048576) (k2 : L2.length ≤ 1048576) (k3 : L3.length ≤ 1048576) :
    Calls Try.prog 13 #[.agg #[.slice A1 L1.length c1, .slice A2 L2.length c2, .slice A3 L3.length c3]] w fun e w' => e = .returned (.tuple #[.int .i64 (gqM L1 L2 L3).1, .int .i64 (gqM L1 L2 L3).2]) ∧ Below w.heap.size w w' := by
  have hB0 : Below w.heap.size w (w.alloc (.cells #[.slice A1 L1.length c1, .slice A2 L2.length c2, .slice A3 L3.length c3] 26 (0, 0))) := balloc (Below.refl _ _)
  have HX := Lib.hid (newS w (.cells #[.slice A1 L1.length c1, .slice A2 L2.length c2, .slice A3 L3.length c3] 26 (0, 0)))
  have HV1 := Lib.hid (h1.keep hB0)
  have HV2 := Lib.hid (h2.keep hB0)
  have HV3 := Lib.hid (h3.keep hB0)
  have HB := Lib.hid hB0
  clear hB0 h1 h2 h3
  cases ht : gridB L1 L2 L3
  · rw [show gqM L1 L2 L3 = (-1, -1) by simp [gqM, ht]]
    go_enter Try.func13, Try.ntmps13
    go_wp2_with fail
    with_reducible refine (validGrid_v A1 c1 L1 A2 c2 L2 A3 c3 L3 false _ HV1.out HV2.out HV3.out k1 k2 k3 ht).mono ?_
    rintro e w1 ⟨rfl, hb⟩
    replace HX := Lib.hid ((hb.block _ (Array.getElem?_eq_some_iff.1 HX.out).1).trans HX.out)
    replace HB := Lib.hid (bkeep2 HB.out hb)
    clear hb
    clear ht
    go_wp2
    exact bodyPost_ret (v := .tuple #[.int .i64 (-1), .int .i64 (-1)]) (by simp only [results, Try.results13]; go_simp) rfl ⟨rfl, HB.out⟩
  · rw [show gqM L1 L2 L3 = (sumI (wishM L1 (L3.map acM)), sumI (wishM L2 (L3.map dnM))) by simp [gqM, ht]]
    go_enter Try.func13, Try.ntmps13
    go_wp2_with fail
    with_reducible refine (validGrid_v A1 c1 L1 A2 c2 L2 A3 c3 L3 true _ HV1.out HV2.out HV3.out k1 k2 k3 ht).mono ?_
    rintro e w1 ⟨rfl, hb⟩
    replace HX := Lib.hid ((hb.block _ (Array.getElem?_eq_some_iff.1 HX.out).1).trans HX.out)
    replace HV1 := Lib.hid (HV1.out.keep hb)
    replace HV2 := Lib.hid (HV2.out.keep hb)
    replace HV3 := Lib.hid (HV3.out.keep hb)
    replace HB := Lib.hid (bkeep2 HB.out hb)
    clear hb
    have HT := Lib.hid ht
    clear ht
    have d0 := cellS HX.out 0
    have d1 := cellS HX.out 1
    have d2 := cellS HX.out 2
    go_wp2_with fail
    with_reducible refine (gridRequest_v A1 c1 L1 A2 c2 L2 A3 c3 L3 _ HV1.out HV2.out HV3.out HT.out).mono ?_
    rintro e w2 ⟨rfl, hb⟩
    clear d0 d1 d2
    replace HX := Lib.hid ((hb.block _ (Array.getElem?_eq_some_iff.1 HX.out).1).trans HX.out)
    replace HB := Lib.hid (bkeep2 HB.out hb)
    clear hb
    go_wp2
    exact bodyPost_ret (v := .tuple #[.int .i64 (sumI (wishM L1 (L3.map acM))), .int .i64 (sumI (wishM L2 (L3.map dnM)))]) (by simp only [results, Try.results13]; go_simp) rfl ⟨rfl, HB.out⟩
set_option maxRecDepth 100000 in
theorem sGridRequest_v (A1 : Option Addr) (c1 : Nat) (L1 : List Ln) (A2 : Option Addr) (c2 : Nat) (L2 : List Ln) (A3 : Option Addr) (c3 : Nat) (L3 : List Ce) (w : World) (h1 : LnV w A1 L1) (h2 : LnV w A2 L2) (h3 : CeV w A3 L3) (k1 : L1.length ≤ 1048576) (k2 : L2.length ≤ 1048576) (k3 : L3.length ≤ 1048576) (q1 : L1.length ≤ c1) (q2 : L2.length ≤ c2) :
    Calls Try.prog 29 #[.agg #[.slice A1 L1.length c1, .slice A2 L2.length c2, .slice A3 L3.length c3]] w fun e w' => e = .returned (.tuple #[.int .i64 (gqM L1 L2 L3).1, .int .i64 (gqM L1 L2 L3).2]) ∧ Below w.heap.size w w' := by
  have hB0 : Below w.heap.size w (w.alloc (.cells #[.slice A1 L1.length c1, .slice A2 L2.length c2, .slice A3 L3.length c3] 26 (0, 0))) := balloc (Below.refl _ _)
  have HX := Lib.hid (newS w (.cells #[.slice A1 L1.length c1, .slice A2 L2.length c2, .slice A3 L3.length c3] 26 (0, 0)))
  have HV1 := Lib.hid (h1.keep hB0)
  have HV2 := Lib.hid (h2.keep hB0)
  have HV3 := Lib.hid (h3.keep hB0)
  have HB := Lib.hid hB0
  clear hB0 h1 h2 h3
  cases ht : gridB L1 L2 L3
  · rw [show gqM L1 L2 L3 = (-1, -1) by simp [gqM, ht]]
    go_enter Try.func29, Try.ntmps29
    go_wp2_with fail
    with_reducible refine (svalidGrid_v A1 c1 L1 A2 c2 L2 A3 c3 L3 false _ HV1.out HV2.out HV3.out k1 k2 k3 ht).mono ?_
    rintro e w1 ⟨rfl, hb⟩
    replace HX := Lib.hid ((hb.block _ (Array.getElem?_eq_some_iff.1 HX.out).1).trans HX.out)
    replace HB := Lib.hid (bkeep2 HB.out hb)
    clear hb
    clear ht
    go_wp2
    exact bodyPost_ret (v := .tuple #[.int .i64 (-1), .int .i64 (-1)]) (by simp only [results, Try.results29]; go_simp) rfl ⟨rfl, HB.out⟩
  · rw [show gqM L1 L2 L3 = (sumI (wishM L1 (L3.map acM)), sumI (wishM L2 (L3.map dnM))) by simp [gqM, ht]]
    go_enter Try.func29, Try.ntmps29
    go_wp2_with fail
    with_reducible refine (svalidGrid_v A1 c1 L1 A2 c2 L2 A3 c3 L3 true _ HV1.out HV2.out HV3.out k1 k2 k3 ht).mono ?_
    rintro e w1 ⟨rfl, hb⟩
    replace HX := Lib.hid ((hb.block _ (Array.getElem?_eq_some_iff.1 HX.out).1).trans HX.out)
    replace HV1 := Lib.hid (HV1.out.keep hb)
    replace HV2 := Lib.hid (HV2.out.keep hb)
    replace HV3 := Lib.hid (HV3.out.keep hb)
    replace HB := Lib.hid (bkeep2 HB.out hb)
    clear hb
    have HT := Lib.hid ht
    clear ht
    have d0 := cellS HX.out 0
    have d1 := cellS HX.out 1
    have d2 := cellS HX.out 2
    go_wp2_with fail
    with_reducible refine (sgridRequest_v A1 c1 L1 A2 c2 L2 A3 c3 L3 _ HV1.out HV2.out HV3.out HT.out q1 q2).mono ?_
    rintro e w2 ⟨rfl, hb⟩
    clear d0 d1 d2
    replace HX := Lib.hid ((hb.block _ (Array.getElem?_eq_some_iff.1 HX.out).1).trans HX.out)
    replace HB := Lib.hid (bkeep2 HB.out hb)
    clear hb
    go_wp2
    exact bodyPost_ret (v := .tuple #[.int .i64 (sumI (wishM L1 (L3.map acM))), .int .i64 (sumI (wishM L2 (L3.map dnM)))]) (by simp only [results, Try.results29]; go_simp) rfl ⟨rfl, HB.out⟩
end Go.Proofs.Ytikndbinlpmgaaa
end
