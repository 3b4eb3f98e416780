import Derived.Test.YtgdkionmeacalabGreatQ11
import Derived.Laws.CopyOwn
section
namespace Go.Proofs.YtgdkionmeacalabGreat
set_option linter.unusedVariables false
/-- the weights of the lines that are above their least sizes -/
def wtZ : List Ln → List Int → List Int
  | l :: L, o :: O => (if l.mi < o then l.wt else 0) :: wtZ L O
  | _, _ => []
/-- the sizes, after each line has given its part, as far as it can -/
def takZ : List Ln → List Int → List Int → List Int
  | l :: L, o :: O, p :: P => (o - mn p (o - l.mi)) :: takZ L O P
  | _, O, _ => O
/-- what they have given together -/
def tknZ : List Ln → List Int → List Int → Int
  | l :: L, o :: O, p :: P => mn p (o - l.mi) + tknZ L O P
  | _, _, _ => 0
def shrZ (L : List Ln) (n : Int) (O : List Int) : List Int :=
  if h : 0 < n ∧ sumI (wtZ L O) ≠ 0 ∧ 0 < tknZ L O (spreadM n (wtZ L O)) then shrZ L (n - tknZ L O (spreadM n (wtZ L O))) (takZ L O (spreadM n (wtZ L O))) else O
termination_by n.toNat
decreasing_by omega
/-- none is below its least size, none too great -/
def SOK : List Ln → List Int → Prop
  | l :: L, o :: O => (l.mi ≤ o ∧ o ≤ 1000000) ∧ SOK L O
  | [], [] => True
  | _, _ => False
theorem SOK.len : ∀ {L : List Ln} {O : List Int}, SOK L O → O.length = L.length
  | [], [], _ => rfl
  | l :: L, o :: O, h => by simp [SOK.len h.2]
  | [], o :: O, h => by simp [SOK] at h
  | l :: L, [], h => by simp [SOK] at h
theorem SOK.get : ∀ {L : List Ln} {O : List Int} {i : Nat} {l : Ln} {o : Int}, SOK L O → L[i]? = some l → O[i]? = some o → l.mi ≤ o ∧ o ≤ 1000000
  | l' :: L, o' :: O, 0, l, o, h, hl, ho => by
    simp only [List.getElem?_cons_zero, Option.some.injEq] at hl ho
    subst hl ho
    exact h.1
  | l' :: L, o' :: O, i + 1, l, o, h, hl, ho => by
    simp only [List.getElem?_cons_succ] at hl ho
    exact SOK.get h.2 hl ho
  | [], _, i, l, o, _, hl, _ => by simp at hl
  | _ :: _, [], i, l, o, _, _, ho => by simp at ho
/-- the weights that are left, while the lines go out -/
def WI : List Ln → List Int → List Int → Prop
  | l :: L, o :: O, x :: W => (x = l.wt ∨ (x = 0 ∧ o = l.mi)) ∧ WI L O W
  | [], [], [] => True
  | _, _, _ => False
theorem WI.all : ∀ {L : List Ln} {O : List Int}, O.length = L.length → WI L O (L.map Ln.wt)
  | [], [], _ => by simp [WI]
  | l :: L, o :: O, h => ⟨.inl rfl, WI.all (by simpa using h)⟩
  | [], o :: O, h => by simp at h
  | l :: L, [], h => by simp at h
theorem WI.len : ∀ {L : List Ln} {O W : List Int}, WI L O W → W.length = L.length ∧ O.length = L.length
  | [], [], [], _ => ⟨rfl, rfl⟩
  | l :: L, o :: O, x :: W, h => by have := WI.len h.2; simp; omega
  | [], o :: O, W, h => by simp [WI] at h
  | [], [], x :: W, h => by simp [WI] at h
  | l :: L, [], W, h => by simp [WI] at h
  | l :: L, o :: O, [], h => by simp [WI] at h
/-- the first k are settled -/
def mixW (L : List Ln) (O W : List Int) (k : Nat) : List Int := (wtZ L O).take k ++ W.drop k
theorem WI.get : ∀ {L : List Ln} {O W : List Int} {k : Nat} {l : Ln} {o x : Int}, WI L O W → L[k]? = some l → O[k]? = some o → W[k]? = some x → x = l.wt ∨ (x = 0 ∧ o = l.mi)
  | l' :: L, o' :: O, x' :: W, 0, l, o, x, h, hl, ho, hx => by
    simp only [List.getElem?_cons_zero, Option.some.injEq] at hl ho hx
    subst hl ho hx
    exact h.1
  | l' :: L, o' :: O, x' :: W, k + 1, l, o, x, h, hl, ho, hx => by
    simp only [List.getElem?_cons_succ] at hl ho hx
    exact WI.get h.2 hl ho hx
  | [], _, _, k, l, o, x, _, hl, _, _ => by simp at hl
  | _ :: _, [], _, k, l, o, x, _, _, ho, _ => by simp at ho
  | _ :: _, _ :: _, [], k, l, o, x, _, _, _, hx => by simp at hx
end Go.Proofs.YtgdkionmeacalabGreat
end
section
namespace Go.Proofs.YtgdkionmeacalabGreat
open Go.RowKit
set_option linter.unusedVariables false
set_option maxHeartbeats 1000000
attribute [local go_sem 5000] run_mx run_mn
attribute [local go_sem] growUpon_value growUpon_skip growUpon_enter
theorem SOK.each {L : List Ln} {O : List Int} (hL : linesB L = true) (h : SOK L O) {i : Nat} {l : Ln} {o : Int} (hl : L[i]? = some l) (ho : O[i]? = some o) : 0 ≤ l.mi ∧ l.mi ≤ 30 ∧ l.mi ≤ o ∧ o ≤ 1000000 := by
  have h1 := h.get hl ho
  have h2 := hL
  simp only [linesB, Bool.and_eq_true, rng_iff, List.all_eq_true, lineB, wB] at h2
  have h3 := (h2.2 l (List.mem_of_getElem? hl)).2
  omega
end Go.Proofs.YtgdkionmeacalabGreat
end
section
namespace Go.Proofs.YtgdkionmeacalabGreat
open Go.RowKit
set_option linter.unusedVariables false
set_option maxHeartbeats 1000000
attribute [local go_sem 5000] run_mx run_mn
attribute [local go_sem] growUpon_value growUpon_skip growUpon_enter
/-- none is below its least size -/
def MI (L : List Ln) (O : List Int) : Prop := ∀ (i : Nat) (l : Ln) (o : Int), L[i]? = some l → O[i]? = some o → l.mi ≤ o
theorem addP_ge : ∀ {O P : List Int} {i : Nat} {o' : Int}, (∀ x ∈ P, 0 ≤ x) → (addP O P)[i]? = some o' → ∃ o, O[i]? = some o ∧ o ≤ o'
  | [], P, i, o', _, h => by simp [addP] at h
  | o :: O, [], i, o', _, h => ⟨o', by simpa [addP] using h, Int.le_refl _⟩
  | o :: O, p :: P, 0, o', hp, h => by
    have := hp p List.mem_cons_self
    simp only [addP, List.getElem?_cons_zero, Option.some.injEq] at h
    exact ⟨o, rfl, by omega⟩
  | o :: O, p :: P, i + 1, o', hp, h => by
    simp only [addP, List.getElem?_cons_succ] at h
    obtain ⟨q, h1, h2⟩ := addP_ge (fun x hx => hp x (List.mem_cons_of_mem _ hx)) h
    exact ⟨q, by simpa using h1, h2⟩
theorem addAt_ge {O P : List Int} {k i : Nat} {o' : Int} (hp : ∀ x ∈ P, 0 ≤ x) (h : (addAt O k P)[i]? = some o') : ∃ o, O[i]? = some o ∧ o ≤ o' := by
  unfold addAt at h
  by_cases hi : i < (O.take k).length
  · rw [List.getElem?_append_left hi] at h
    have h2 : i < k := by rw [List.length_take] at hi; omega
    rw [List.getElem?_take, if_pos h2] at h
    exact ⟨o', h, Int.le_refl _⟩
  · rw [List.getElem?_append_right (by omega)] at h
    obtain ⟨o, h1, h2⟩ := addP_ge hp h
    rw [List.getElem?_drop] at h1
    rw [List.length_take] at h1 hi
    by_cases hk : k ≤ O.length
    · rw [show k + (i - min k O.length) = i from by omega] at h1
      exact ⟨o, h1, h2⟩
    · have := (List.getElem?_eq_some_iff.1 h1).1
      omega
theorem MI.add {L : List Ln} {O P : List Int} {k : Nat} (h : MI L O) (hp : ∀ x ∈ P, 0 ≤ x) : MI L (addAt O k P) := fun i l o hl ho => by
  obtain ⟨o1, h1, h2⟩ := addAt_ge hp ho
  have := h i l o1 hl h1
  omega
theorem MI.step {L : List Ln} {O ws : List Int} {n : Nat} {s : Sp} (h : MI L O) (hw : wsOK ws) (hl : ws.length = n) (hs : spanB n s = true) : MI L (stepM ws O s) := by
  obtain ⟨a, m, e1, e2, h1, h2, h3, h4⟩ := spanB_yes hs
  unfold stepM
  rw [show s.sa.toNat = a from by omega, show s.many.toNat = m from by omega]
  exact h.add (spread_nn (by have := mx_spec (s.need - sumI (segI O a m)) 0; omega) (seg_ok hw h1 (by omega)))
theorem MI.round {L : List Ln} {ws : List Int} {n : Nat} {m : Int} (hw : wsOK ws) (hl : ws.length = n) : ∀ {S : List Sp} {O : List Int}, (∀ s ∈ S, spanB n s = true) → MI L O → MI L (roundM ws m S O)
  | [], O, _, h => h
  | s :: S, O, hs, h => by
    unfold roundM
    rw [List.foldl_cons]
    have hs' : ∀ s ∈ S, spanB n s = true := fun x hx => hs x (List.mem_cons_of_mem _ hx)
    split
    · exact MI.round hw hl hs' (h.step hw hl (hs s List.mem_cons_self))
    · exact MI.round hw hl hs' h
theorem SOK.of : ∀ {L : List Ln} {O : List Int}, O.length = L.length → MI L O → (∀ x ∈ O, x ≤ 1000000) → SOK L O
  | [], [], _, _, _ => trivial
  | l :: L, o :: O, hl, h, hx => ⟨⟨h 0 l o rfl rfl, hx o List.mem_cons_self⟩, SOK.of (by simpa using hl) (fun i l' o' h1 h2 => h (i + 1) l' o' (by simpa using h1) (by simpa using h2)) (fun x hm => hx x (List.mem_cons_of_mem _ hm))⟩
  | [], o :: O, h, _, _ => by simp at h
  | l :: L, [], h, _, _ => by simp at h
/-- the sizes in a room -/
def sizedM (L : List Ln) (S : List Sp) (room : Int) : List Int :=
  if room - sumI (wishM L S) < 0 then shrZ L (-(room - sumI (wishM L S))) (wishM L S)
  else if sumI (L.map Ln.wt) = 0 then wishM L S
  else addAt (wishM L S) 0 (spreadM (room - sumI (wishM L S)) (L.map Ln.wt))
end Go.Proofs.YtgdkionmeacalabGreat
end
section
namespace Go.Proofs.YtgdkionmeacalabGreat
open Go.RowKit
set_option linter.unusedVariables false
set_option maxHeartbeats 1000000
attribute [local go_sem 5000] run_mx run_mn
attribute [local go_sem] growUpon_value growUpon_skip growUpon_enter
theorem OB.but {w w' : World} {g h cap : Nat} {L : List Int} (hi : OB w h cap L) (hg : w.grownBy w' (some g)) (hne : h ≠ g) : OB w' h cap L := by
  obtain ⟨hl, cs, hh, hs, hc⟩ := hi
  exact ⟨hl, cs, (hg.block h (ltS hh) (fun e => hne (Option.some.inj e))).trans hh, hs, hc⟩
end Go.Proofs.YtgdkionmeacalabGreat
end
section
namespace Go.Proofs.YtgdkionmeacalabGreat
open Go.RowKit
set_option linter.unusedVariables false
set_option maxHeartbeats 1000000
attribute [local go_sem 5000] run_mx run_mn
attribute [local go_sem] growUpon_value growUpon_skip growUpon_enter
def sizedO (L : List Ln) (O : List Int) (room : Int) : List Int :=
  if room - sumI O < 0 then shrZ L (-(room - sumI O)) O
  else if sumI (L.map Ln.wt) = 0 then O
  else addAt O 0 (spreadM (room - sumI O) (L.map Ln.wt))
end Go.Proofs.YtgdkionmeacalabGreat
end
section
namespace Go.Proofs.YtgdkionmeacalabGreat
open Go.RowKit
set_option linter.unusedVariables false
set_option maxHeartbeats 1000000
attribute [local go_sem] growUpon_value growUpon_skip growUpon_enter
def spvalsN : List Sp → List Value
  | [] => []
  | r :: t => valsSp r ++ spvalsN t
theorem spvalsN_append (A B : List Sp) : spvalsN (A ++ B) = spvalsN A ++ spvalsN B := by
  induction A with
  | nil => rfl
  | cons r t ih => simp [spvalsN, ih]
theorem spvalsN_succ {M : List Sp} {k : Nat} {r : Sp} (h : M[k]? = some r) : spvalsN (M.take k) ++ valsSp r = spvalsN (M.take (k + 1)) := by
  rw [List.take_add_one, h, Option.toList, spvalsN_append]; simp [spvalsN]
theorem spvalsN_get : ∀ {M : List Sp} {i : Nat} {r : Sp}, M[i]? = some r → ∀ j, j < 3 → (spvalsN M)[i * 3 + j]? = (valsSp r)[j]?
  | [], i, r, h, _, _ => by simp at h
  | q :: t, 0, r, h, j, hj => by
    simp at h; subst h
    show (valsSp q ++ spvalsN t)[0 * 3 + j]? = _
    rw [List.getElem?_append_left (by simp [valsSp]; omega)]; simp
  | q :: t, i + 1, r, h, j, hj => by
    show (valsSp q ++ spvalsN t)[(i + 1) * 3 + j]? = _
    rw [List.getElem?_append_right (by simp [valsSp]; omega)]
    have := spvalsN_get (M := t) (i := i) (r := r) (by simpa using h) j hj
    rw [← this]; congr 1; simp [valsSp]; omega
/-- the value reads as the list -/
def SpR (w : World) (v : Value) (L : List Sp) : Prop := ∃ A c, v = .slice A L.length c ∧ SpV w A L
theorem SpR.keep {w w' : World} {v : Value} {L : List Sp} (h : SpR w v L) (hb : Below w.heap.size w w') : SpR w' v L := let ⟨A, c, e, n⟩ := h; ⟨A, c, e, n.keep hb⟩
theorem SpR.own {w : World} {base n : Nat} {v : Value} {M : List Sp} {T : TypeId} (h : w.ownsRow base T 3 v n (spvalsN M)) (hn : n = M.length) : SpR w v M := by
  subst hn
  have hl := h.lt
  have hc := fun g hg => h.cells (g := g) hg
  rcases h.2 with ⟨rfl, h0⟩ | ⟨g, cap, cur, rfl, _⟩
  · exact ⟨none, 0, by rw [h0], ⟨fun h => absurd h (by omega)⟩⟩
  · refine ⟨_, cap, rfl, ⟨fun _ => ⟨g, 0, rfl, (hl g rfl).2, fun i r hr => ?_⟩⟩⟩
    have e : ∀ j, j < 3 → ∀ u, (valsSp r)[j]? = some u → w.cell? ⟨g, 0 + i * 3 + j, none⟩ = some u := fun j hj u hu => by
      have h1 := hc g rfl (i * 3 + j) u ((spvalsN_get hr j hj).trans hu)
      have hadd : (⟨g, 0, none⟩ : Addr).add (i * 3 + j) = ⟨g, i * 3 + j, none⟩ := by unfold Addr.add; split <;> simp_all
      rw [hadd] at h1
      rwa [Nat.zero_add]
    exact ⟨e 0 (by omega) _ rfl, e 1 (by omega) _ rfl, e 2 (by omega) _ rfl⟩
theorem span_infoN : ∃ (i : TypeInfo) (z : Value), Tryz.prog.info? 152 = some i ∧ i.zero = some z ∧ i.size = 3 ∧ i.bytes = 24 ∧ z.cells.size = 3 := by
  have hinfo : (Tryz.prog.info? 152).map (fun i => (i.zero, i.size, i.bytes)) = some (some (.agg #[.int .i64 0, .int .i64 0, .int .i64 0]), 3, 24) := by kernel_rfl
  obtain ⟨i, hi, h1, h2, h3⟩ := info_parts hinfo
  exact ⟨i, _, hi, h1, h2, h3, rfl⟩
theorem newSp3 (W : World) (r : Sp) (T : TypeId) : ∀ (j : Nat) (u : Value), (valsSp r)[j]? = some u → (W.alloc (.cells #[.int .i64 r.sa, .int .i64 r.many, .int .i64 r.need] T)).cell? ((⟨W.heap.size, 0, none⟩ : Addr).add j) = some u := fun j u h => by
  have hadd : (⟨W.heap.size, 0, none⟩ : Addr).add j = ⟨W.heap.size, j, none⟩ := by unfold Addr.add; split <;> simp_all
  rw [hadd]
  exact (cellS (newS W _) j).trans (by simpa [valsSp] using h)
theorem valsSp_one (r : Sp) : ∀ u ∈ valsSp r, u.oneCell' = true := by intro u hu; simp [valsSp] at hu; rcases hu with rfl | rfl | rfl <;> rfl
theorem own_belowN {w w' : World} {base : Nat} {e : TypeId} {size : Nat} {v : Value} {n : Nat} {xs : List Value} (h : w.ownsRow base e size v n xs) (hb : Below w.heap.size w w') : w'.ownsRow base e size v n xs :=
  h.kept (row := none) ⟨hb.os, hb.tape, hb.output, hb.size, fun k hk _ => hb.block k hk⟩ (by cases v.ownBlock <;> simp)
set_option maxRecDepth 100000 in
theorem colSpans_w (A1 A2 A3 : Option Addr) (c1 n1 c2 n2 c3 : Nat) (L : List Ce) (w : World) (h : CeV w A3 L) (hL : L.length ≤ 10) (hsm : ∀ p ∈ L, smW p) :
    Calls Tryz.prog 79 #[.agg #[.slice A1 n1 c1, .slice A2 n2 c2, .slice A3 L.length c3]] w fun e w' => (∃ v, e = .returned v ∧ SpR w' v (L.map acM)) ∧ Below w.heap.size w w' := by
  obtain ⟨ti, tz, ti1, ti2, ti3, ti4, ti5⟩ := span_infoN
  have HSM := Lib.hid hsm
  clear hsm
  have ho0 := World.ownsRow_lit (base := (w.alloc (.cells #[.slice A1 n1 c1, .slice A2 n2 c2, .slice A3 L.length c3] 98 (0, 0))).heap.size) (e := 152) (size := 3) (w.alloc (.cells #[.slice A1 n1 c1, .slice A2 n2 c2, .slice A3 L.length c3] 98 (0, 0))) #[] 0 (Nat.le_refl _) (by decide) rfl
  rw [World.size_alloc] at ho0
  have HO := Lib.hid (show ((w.alloc (.cells #[.slice A1 n1 c1, .slice A2 n2 c2, .slice A3 L.length c3] 98 (0, 0))).alloc (.cells #[] 152 (0, 0))).ownsRow (w.heap.size + 1) 152 3 (.slice (some ⟨w.heap.size + 1, 0, none⟩) 0 0) 0 (spvalsN []) from ho0)
  have HG := Lib.hid ((Below.heap_alloc (w.alloc (.cells #[.slice A1 n1 c1, .slice A2 n2 c2, .slice A3 L.length c3] 98 (0, 0))) (.cells #[] 152 (0, 0)) w.heap.size (by simp)).trans (newS w (.cells #[.slice A1 n1 c1, .slice A2 n2 c2, .slice A3 L.length c3] 98 (0, 0))))
  have HB := Lib.hid (balloc (o := (.cells #[] 152 (0, 0))) (balloc (o := (.cells #[.slice A1 n1 c1, .slice A2 n2 c2, .slice A3 L.length c3] 98 (0, 0))) (Below.refl w.heap.size w)))
  clear ho0
  go_enter Tryz.func79, Tryz.ntmps79
  go_wp2_with fail
  go_loopw [3, 4] (fun out i wr => ∃ k : Nat, k ≤ L.length ∧ i = .int .i64 k ∧ wr.ownsRow (w.heap.size + 1) 152 3 out k (spvalsN ((L.map acM).take k)) ∧ wr.heap[w.heap.size]? = some (.cells #[.slice A1 n1 c1, .slice A2 n2 c2, .slice A3 L.length c3] 98 (0, 0)) ∧ Below w.heap.size w wr) (fun _ i _ => L.length - (intOf i).toNat)
  case atStart => exact ⟨0, by omega, rfl, HO.out, HG.out, HB.out⟩
  case round =>
    obtain ⟨k, hk, rfl, ho, hg, hB⟩ := hrel
    clear HO HB HG
    have g2 := cellS hg 2
    by_cases hlt : k < L.length
    · have hd : decide ((k : Int) < (L.length : Int)) = true := by simpa using hlt
      obtain ⟨b, off, rfl, hb, hp⟩ := (h.keep hB).cells (by omega)
      have hget : L[k]? = some L[k] := List.getElem?_eq_getElem hlt
      obtain ⟨d0, d1, d2, d3, d4, d5, d6, d7, d8⟩ := hp k _ hget
      have hsk : smW L[k] := HSM.out _ (List.getElem_mem hlt)
      generalize hx : L[k] = p at *
      have HTS := Lib.hid (spvalsN_succ (show (L.map acM)[k]? = some (acM p) by rw [List.getElem?_map, hget]; rfl))
      have hob := ho.lt
      have HO := Lib.hid ho
      have HB := Lib.hid hB
      have HG := Lib.hid hg
      clear ho hB hg hp hget hx
      go_upto_region 6 with (fail)
      refine wp_genGG (fun W => W.heap[wr.heap.size]? = some (.cells #[.int .i64 p.co, .int .i64 p.ro, .int .i64 p.mc, .int .i64 p.mr, .int .i64 p.cw, .int .i64 p.ch, .int .i64 p.sk, .int .i64 p.px, .int .i64 p.py] 34 (0, 0)) ∧ Below wr.heap.size wr W) ⟨newS _ _, balloc (Below.refl _ _)⟩ (fun W h0 => ?_)
      clear d0 d1 d2 d3 d4 d5 d6 d7 d8 g2
      obtain ⟨hx, hbW⟩ := h0
      have x0 := cellS hx 0
      have x1 := cellS hx 2
      have x2 := cellS hx 4
      have x3 := cellS hx 7
      have hlg := ltS HG.out
      have hsW := hbW.size
      replace HO := Lib.hid (own_belowN HO.out hbW)
      replace HG := Lib.hid ((hbW.block _ hlg).trans HG.out)
      replace HB := Lib.hid (bkeep2 HB.out hbW)
      obtain ⟨⟨b1, b2⟩, ⟨b3, b4⟩, ⟨b5, b6⟩, ⟨b7, b8⟩⟩ := hsk
      clear hx hbW
      go_wp2_with (at_builtin; refine wpList_append_own _ rfl _ _ 118 rfl (w.heap.size + 1) 152 ti tz 3 24 Tryz.underlying118 ti1 ti2 ti3 ti4 ti5 (by decide) _ _ _ rfl (HO.out.alloc _) ⟨W.heap.size, 0, none⟩ 1 1 (valsSp (acM p)) rfl rfl (newSp3 _ (acM p) _) (valsSp_one _) (by simp only [maxLen]; omega) (by omega) (by simp; omega) ?_)
      intro v5 w5 how5 hgr5 _
      rw [HTS.out] at how5
      have hg5 := (hgr5.block w.heap.size (by simp; omega) (fun e => by have := hob _ e.symm; omega)).trans ((Below.heap_alloc _ _ _ (by omega)).trans HG.out)
      replace HB := Lib.hid (below_own HB.out hgr5 hob (by omega) (Nat.le_refl _))
      replace HO := Lib.hid how5
      replace HG := Lib.hid hg5
      clear how5 hgr5 hob x0 x1 x2 x3 hg5
      go_wp2
      go_roundw
      case rel => exact ⟨k + 1, by omega, by go_num, by simpa using HO.out, HG.out, HB.out⟩
      case measure => simp [intOf]; omega
    · have hd : decide ((k : Int) < (L.length : Int)) = false := decide_eq_false (by omega)
      obtain rfl : k = L.length := by omega
      have he : (L.map acM).take L.length = L.map acM := List.take_of_length_le (by simp)
      rw [he] at ho
      have HR := Lib.hid (SpR.own ho (by simp))
      have HB := Lib.hid hB
      clear ho hB he hg
      go_wp2
      go_ret
      exact ⟨⟨_, rfl, HR.out⟩, HB.out⟩
set_option maxRecDepth 100000 in
theorem rowSpans_w (A1 A2 A3 : Option Addr) (c1 n1 c2 n2 c3 : Nat) (L : List Ce) (w : World) (h : CeV w A3 L) (hL : L.length ≤ 10) (hsm : ∀ p ∈ L, smW p) :
    Calls Tryz.prog 80 #[.agg #[.slice A1 n1 c1, .slice A2 n2 c2, .slice A3 L.length c3]] w fun e w' => (∃ v, e = .returned v ∧ SpR w' v (L.map dnM)) ∧ Below w.heap.size w w' := by
  obtain ⟨ti, tz, ti1, ti2, ti3, ti4, ti5⟩ := span_infoN
  have HSM := Lib.hid hsm
  clear hsm
  have ho0 := World.ownsRow_lit (base := (w.alloc (.cells #[.slice A1 n1 c1, .slice A2 n2 c2, .slice A3 L.length c3] 98 (0, 0))).heap.size) (e := 152) (size := 3) (w.alloc (.cells #[.slice A1 n1 c1, .slice A2 n2 c2, .slice A3 L.length c3] 98 (0, 0))) #[] 0 (Nat.le_refl _) (by decide) rfl
  rw [World.size_alloc] at ho0
  have HO := Lib.hid (show ((w.alloc (.cells #[.slice A1 n1 c1, .slice A2 n2 c2, .slice A3 L.length c3] 98 (0, 0))).alloc (.cells #[] 152 (0, 0))).ownsRow (w.heap.size + 1) 152 3 (.slice (some ⟨w.heap.size + 1, 0, none⟩) 0 0) 0 (spvalsN []) from ho0)
  have HG := Lib.hid ((Below.heap_alloc (w.alloc (.cells #[.slice A1 n1 c1, .slice A2 n2 c2, .slice A3 L.length c3] 98 (0, 0))) (.cells #[] 152 (0, 0)) w.heap.size (by simp)).trans (newS w (.cells #[.slice A1 n1 c1, .slice A2 n2 c2, .slice A3 L.length c3] 98 (0, 0))))
  have HB := Lib.hid (balloc (o := (.cells #[] 152 (0, 0))) (balloc (o := (.cells #[.slice A1 n1 c1, .slice A2 n2 c2, .slice A3 L.length c3] 98 (0, 0))) (Below.refl w.heap.size w)))
  clear ho0
  go_enter Tryz.func80, Tryz.ntmps80
  go_wp2_with fail
  go_loopw [3, 4] (fun out i wr => ∃ k : Nat, k ≤ L.length ∧ i = .int .i64 k ∧ wr.ownsRow (w.heap.size + 1) 152 3 out k (spvalsN ((L.map dnM).take k)) ∧ wr.heap[w.heap.size]? = some (.cells #[.slice A1 n1 c1, .slice A2 n2 c2, .slice A3 L.length c3] 98 (0, 0)) ∧ Below w.heap.size w wr) (fun _ i _ => L.length - (intOf i).toNat)
  case atStart => exact ⟨0, by omega, rfl, HO.out, HG.out, HB.out⟩
  case round =>
    obtain ⟨k, hk, rfl, ho, hg, hB⟩ := hrel
    clear HO HB HG
    have g2 := cellS hg 2
    by_cases hlt : k < L.length
    · have hd : decide ((k : Int) < (L.length : Int)) = true := by simpa using hlt
      obtain ⟨b, off, rfl, hb, hp⟩ := (h.keep hB).cells (by omega)
      have hget : L[k]? = some L[k] := List.getElem?_eq_getElem hlt
      obtain ⟨d0, d1, d2, d3, d4, d5, d6, d7, d8⟩ := hp k _ hget
      have hsk : smW L[k] := HSM.out _ (List.getElem_mem hlt)
      generalize hx : L[k] = p at *
      have HTS := Lib.hid (spvalsN_succ (show (L.map dnM)[k]? = some (dnM p) by rw [List.getElem?_map, hget]; rfl))
      have hob := ho.lt
      have HO := Lib.hid ho
      have HB := Lib.hid hB
      have HG := Lib.hid hg
      clear ho hB hg hp hget hx
      go_upto_region 6 with (fail)
      refine wp_genGG (fun W => W.heap[wr.heap.size]? = some (.cells #[.int .i64 p.co, .int .i64 p.ro, .int .i64 p.mc, .int .i64 p.mr, .int .i64 p.cw, .int .i64 p.ch, .int .i64 p.sk, .int .i64 p.px, .int .i64 p.py] 34 (0, 0)) ∧ Below wr.heap.size wr W) ⟨newS _ _, balloc (Below.refl _ _)⟩ (fun W h0 => ?_)
      clear d0 d1 d2 d3 d4 d5 d6 d7 d8 g2
      obtain ⟨hx, hbW⟩ := h0
      have x0 := cellS hx 1
      have x1 := cellS hx 3
      have x2 := cellS hx 5
      have x3 := cellS hx 8
      have hlg := ltS HG.out
      have hsW := hbW.size
      replace HO := Lib.hid (own_belowN HO.out hbW)
      replace HG := Lib.hid ((hbW.block _ hlg).trans HG.out)
      replace HB := Lib.hid (bkeep2 HB.out hbW)
      obtain ⟨⟨b1, b2⟩, ⟨b3, b4⟩, ⟨b5, b6⟩, ⟨b7, b8⟩⟩ := hsk
      clear hx hbW
      go_wp2_with (at_builtin; refine wpList_append_own _ rfl _ _ 118 rfl (w.heap.size + 1) 152 ti tz 3 24 Tryz.underlying118 ti1 ti2 ti3 ti4 ti5 (by decide) _ _ _ rfl (HO.out.alloc _) ⟨W.heap.size, 0, none⟩ 1 1 (valsSp (dnM p)) rfl rfl (newSp3 _ (dnM p) _) (valsSp_one _) (by simp only [maxLen]; omega) (by omega) (by simp; omega) ?_)
      intro v5 w5 how5 hgr5 _
      rw [HTS.out] at how5
      have hg5 := (hgr5.block w.heap.size (by simp; omega) (fun e => by have := hob _ e.symm; omega)).trans ((Below.heap_alloc _ _ _ (by omega)).trans HG.out)
      replace HB := Lib.hid (below_own HB.out hgr5 hob (by omega) (Nat.le_refl _))
      replace HO := Lib.hid how5
      replace HG := Lib.hid hg5
      clear how5 hgr5 hob x0 x1 x2 x3 hg5
      go_wp2
      go_roundw
      case rel => exact ⟨k + 1, by omega, by go_num, by simpa using HO.out, HG.out, HB.out⟩
      case measure => simp [intOf]; omega
    · have hd : decide ((k : Int) < (L.length : Int)) = false := decide_eq_false (by omega)
      obtain rfl : k = L.length := by omega
      have he : (L.map dnM).take L.length = L.map dnM := List.take_of_length_le (by simp)
      rw [he] at ho
      have HR := Lib.hid (SpR.own ho (by simp))
      have HB := Lib.hid hB
      clear ho hB he hg
      go_wp2
      go_ret
      exact ⟨⟨_, rfl, HR.out⟩, HB.out⟩
end Go.Proofs.YtgdkionmeacalabGreat
end
section
namespace Go.Proofs.YtgdkionmeacalabGreat
open Go Go.RowKit
set_option linter.unusedVariables false
section
variable {P : Program}
def XV (u : Value) : Value → World → Prop := fun v _ => v = u
def XT : Value → World → Prop := fun _ _ => True
/-- what stays true when memory is made -/
def Stay (T : Value → World → Prop) : Prop := ∀ v a b, T v a → Gr a b → T v b
theorem stay_V (u : Value) : Stay (XV u) := fun _ _ _ h _ => h
theorem stay_T : Stay XT := fun _ _ _ _ _ => trivial
theorem stay_of {F : Value → World → Prop} (h : ∀ v a b, F v a → Below a.heap.size a b → F v b) : Stay F := fun v a b x g => h v a b x g.out
theorem stay_list {l : List (Value → World → Prop)} (h : ∀ T ∈ l, Stay T) : ∀ k v a b, (l.getD k XT) v a → Gr a b → (l.getD k XT) v b := by
  intro k v a b hv g
  rw [List.getD_eq_getElem?_getD] at *
  cases hk : l[k]? with
  | none => trivial
  | some T => rw [hk] at hv; exact h T (List.mem_of_getElem? hk) v a b hv g
def GIx (_ : Nat) (_ : World) : Prop := True
theorem gx_gen {K : Value → World → Prop} {r : Result Next} (h : ∀ K' : Value → World → Prop, (∀ v w', K v w' → K' v w') → givesUpon P K' r) : givesUpon P K r := h K fun _ _ h => h
theorem lookD_imp {T : Nat → Value → World → Prop} {a0 a : Act} {w : World} {G G' : Prop} (hG : G → G') : ∀ {ds : List (Tmp × Option Nat)}, lookD T a0 a w ds G → lookD T a0 a w ds G'
  | [], h => hG h
  | (t, some j) :: r, h => fun x => lookD_imp (ds := r) hG (h x)
  | (t, none) :: r, h => fun x => lookD_imp (ds := r) hG (h x)
theorem givesUpon_imp {K K' : Value → World → Prop} (hK : ∀ v w, K v w → K' v w) {r : Result Next} (h : givesUpon P K r) : givesUpon P K' r := by
  unfold givesUpon at *
  split at h
  · exact hK _ _ h
  · exact hK _ _ h
  · exact h.mono fun e w' ⟨v, e1, e2⟩ => ⟨v, e1, hK _ _ e2⟩
  · exact h.elim
theorem opOK_rx {ops : List Oper} {T : Nat → Value → World → Prop} {a0 : Act} {w0 : World} {k : Nat} {o : Oper} (ds : List (Tmp × Option Nat)) (hB : dsB ops o ds = true) (hg : o.guard = none)
    (h : ∀ (a : Act) (w : World), Gr w0 w → lookD T a0 a w ds (givesUpon P (fun v w' => T k v w' ∧ Gr w w') ((execOp a.eval o).run P w))) : opOK P ops T Gr GIx a0 w0 k o :=
  opOK_ds ds hB hg fun m a w _ hR _ => lookD_imp (fun x => givesUpon_imp (fun v w' ⟨h1, h2⟩ => ⟨h1, h2, trivial⟩) x) (h a w hR)
theorem wp_region_rx {id : Nat} {l : List Oper} {Q : Exit → Act → World → Prop} {a0 : Act} {w : World} (tl : List (Value → World → Prop))
    (hm : P.follows .mixedOrders = true) (hB : rgB l a0.tmps.size = true) (hTs : ∀ T ∈ tl, Stay T)
    (hops : opsOK P l (fun k => tl.getD k XT) Gr GIx a0 w.drew l 0) (hfin : ∀ w', Gr w.drew w' → finP (fun k => tl.getD k XT) w' (fun a' => Q .normal a' w') l 0 a0) : (Code.region id l.toArray true).wp P Q a0 w :=
  wp_region_rgl (fun k => tl.getD k XT) Gr GIx hm hB Gr.refl (fun _ _ _ h k => h.trans k) (stay_list hTs) trivial hops fun w' h _ => hfin w' h
end
end Go.Proofs.YtgdkionmeacalabGreat
end
section
namespace Go.Proofs.YtgdkionmeacalabGreat
open Go.RowKit
set_option linter.unusedVariables false
set_option maxHeartbeats 1000000
attribute [local go_sem] growUpon_value growUpon_skip growUpon_enter
attribute [local go_sem] givesUpon_value givesUpon_skip givesUpon_enter
def NRz (w : World) (v : Value) (n : Nat) (L : List Int) : Prop := ∃ A c, v = .slice A n c ∧ NV w A L
theorem NRz.keep {w w' : World} {v : Value} {n : Nat} {L : List Int} (h : NRz w v n L) (hb : Below w.heap.size w w') : NRz w' v n L := let ⟨A, c, e, q⟩ := h; ⟨A, c, e, q.keep hb⟩
set_option maxRecDepth 100000 in
theorem gridRequest_w (A1 : Option Addr) (c1 : Nat) (L1 : List Ln) (A2 : Option Addr) (c2 : Nat) (L2 : List Ln) (A3 : Option Addr) (c3 : Nat) (L3 : List Ce) (w : World) (h1 : LnV w A1 L1) (h2 : LnV w A2 L2) (h3 : CeV w A3 L3) (v1 : linesB L1 = true) (v2 : linesB L2 = true) (hl8 : L3.length ≤ 10) (hsm : ∀ p ∈ L3, smW p) (hs1 : spansW L1.length (L3.map acM)) (hs2 : spansW L2.length (L3.map dnM)) :
    Calls Tryz.prog 154 #[.agg #[.slice A1 L1.length c1, .slice A2 L2.length c2, .slice A3 L3.length c3]] w fun e w' => e = .returned (.tuple #[.int .i64 (sumI (wishM L1 (L3.map acM))), .int .i64 (sumI (wishM L2 (L3.map dnM)))]) ∧ Below w.heap.size w w' := by
  obtain ⟨m1, q1⟩ := wish_smalW v1 hs1
  obtain ⟨m2, q2⟩ := wish_smalW v2 hs2
  have n1 := (linesB_len v1).2
  have n2 := (linesB_len v2).2
  have hB0 : Below w.heap.size w (w.alloc (.cells #[.slice A1 L1.length c1, .slice A2 L2.length c2, .slice A3 L3.length c3] 98 (0, 0))) := balloc (Below.refl _ _)
  have hx0 := newS w (.cells #[.slice A1 L1.length c1, .slice A2 L2.length c2, .slice A3 L3.length c3] 98 (0, 0))
  have HV1 := Lib.hid (h1.keep hB0)
  have HV2 := Lib.hid (h2.keep hB0)
  have HV3 := Lib.hid (h3.keep hB0)
  have HX := Lib.hid hx0
  have HB := Lib.hid hB0
  have HS1 := Lib.hid v1
  have HS2 := Lib.hid v2
  have HM1 := Lib.hid m1
  have HM2 := Lib.hid m2
  have HSM := Lib.hid hsm
  have HK1 := Lib.hid hs1
  have HK2 := Lib.hid hs2
  have HL1 := Lib.hid q1
  have HL2 := Lib.hid q2
  clear hB0 hx0 h1 h2 h3 v1 v2 m1 m2 hsm hs1 hs2 q1 q2
  go_enter Tryz.func154, Tryz.ntmps154
  have d0 := cellS HX.out 0
  have d1 := cellS HX.out 1
  have d2 := cellS HX.out 2
  have lx := ltS HX.out
  go_wp2_with fail
  refine wp_region_rx (XV (.pointer (some ⟨w.heap.size, 0, none⟩)) :: XV (.slice A1 L1.length c1) :: XV (.pointer (some ⟨w.heap.size, 2, none⟩)) :: XV (.slice A3 L3.length c3) :: (fun v w => SpR w v (L3.map acM)) :: (fun v w => NRz w v L1.length (wishM L1 (L3.map acM))) :: (fun v w => NRz w v L1.length (wishM L1 (L3.map acM))) :: []) (by kernel_rfl) (by kernel_rfl) ?hTs ?hops ?hfin
  case hTs =>
    intro T hT
    simp only [List.mem_cons, List.not_mem_nil, or_false] at hT
    rcases hT with rfl | rfl | rfl | rfl | rfl | rfl | rfl <;> first | exact stay_V _ | exact stay_T | exact stay_of (fun v a b x g => x.keep g) | exact stay_of (fun v a b x g => x)
  case hops =>
    refine ⟨opOK_rx [(1, none)] (by kernel_rfl) rfl ?_, ?_⟩
    · intro act w' hw' h1
      have hk : ∀ v, act.eval (.const v) = v := fun _ => rfl
      have hf : ∀ f, act.eval (.func f) = .func (.func f) #[] #[] := fun _ => rfl
      generalize act.eval = ρ at *
      replace h1 : ρ (.tmp 1) = .pointer (some ⟨w.heap.size, 0, none⟩) := h1
      refine gx_gen (fun K hK => ?_)
      obtain ⟨hc, hf'⟩ := bcell (bdrewn hw'.out)
      go_simp
      exact hK _ _ ⟨rfl, Gr.refl _⟩
    refine ⟨opOK_rx [(6, some 0)] (by kernel_rfl) rfl ?_, ?_⟩
    · intro act w' hw' h1
      have hk : ∀ v, act.eval (.const v) = v := fun _ => rfl
      have hf : ∀ f, act.eval (.func f) = .func (.func f) #[] #[] := fun _ => rfl
      generalize act.eval = ρ at *
      replace h1 : ρ (.tmp 6) = .pointer (some ⟨w.heap.size, 0, none⟩) := h1
      refine gx_gen (fun K hK => ?_)
      obtain ⟨hc, hf'⟩ := bcell (bdrewn hw'.out)
      go_simp
      exact hK _ _ ⟨rfl, Gr.refl _⟩
    refine ⟨opOK_rx [(1, none)] (by kernel_rfl) rfl ?_, ?_⟩
    · intro act w' hw' h1
      have hk : ∀ v, act.eval (.const v) = v := fun _ => rfl
      have hf : ∀ f, act.eval (.func f) = .func (.func f) #[] #[] := fun _ => rfl
      generalize act.eval = ρ at *
      replace h1 : ρ (.tmp 1) = .pointer (some ⟨w.heap.size, 0, none⟩) := h1
      refine gx_gen (fun K hK => ?_)
      obtain ⟨hc, hf'⟩ := bcell (bdrewn hw'.out)
      go_simp
      exact hK _ _ ⟨rfl, Gr.refl _⟩
    refine ⟨opOK_rx [(8, some 2)] (by kernel_rfl) rfl ?_, ?_⟩
    · intro act w' hw' h1
      have hk : ∀ v, act.eval (.const v) = v := fun _ => rfl
      have hf : ∀ f, act.eval (.func f) = .func (.func f) #[] #[] := fun _ => rfl
      generalize act.eval = ρ at *
      replace h1 : ρ (.tmp 8) = .pointer (some ⟨w.heap.size, 2, none⟩) := h1
      refine gx_gen (fun K hK => ?_)
      obtain ⟨hc, hf'⟩ := bcell (bdrewn hw'.out)
      go_simp
      exact hK _ _ ⟨rfl, Gr.refl _⟩
    refine ⟨opOK_rx [(9, some 3)] (by kernel_rfl) rfl ?_, ?_⟩
    · intro act w' hw' h1
      have hk : ∀ v, act.eval (.const v) = v := fun _ => rfl
      have hf : ∀ f, act.eval (.func f) = .func (.func f) #[] #[] := fun _ => rfl
      generalize act.eval = ρ at *
      replace h1 : ρ (.tmp 9) = .slice A3 L3.length c3 := h1
      refine gx_gen (fun K hK => ?_)
      obtain ⟨hc, hf'⟩ := bcell (bdrewn hw'.out)
      go_simp
      (with_reducible refine (each_acrossW A3 c3 L3 _ (HV3.out.keep (bdrewn hw'.out)) (by omega) HSM.out).mono ?_); rintro e w1 ⟨rfl, hr1, hb1⟩; exact ⟨_, rfl, hK _ _ ⟨⟨_, _, by rw [List.length_map], hr1.v⟩, hb1⟩⟩
    refine ⟨opOK_rx [(7, some 1), (10, some 4)] (by kernel_rfl) rfl ?_, ?_⟩
    · intro act w' hw' h1 h2
      have hk : ∀ v, act.eval (.const v) = v := fun _ => rfl
      have hf : ∀ f, act.eval (.func f) = .func (.func f) #[] #[] := fun _ => rfl
      generalize act.eval = ρ at *
      replace h1 : ρ (.tmp 7) = .slice A1 L1.length c1 := h1
      replace h2 : (fun v w => SpR w v (L3.map acM)) (ρ (.tmp 10)) w' := h2
      refine gx_gen (fun K hK => ?_)
      obtain ⟨hc, hf'⟩ := bcell (bdrewn hw'.out)
      go_simp
      obtain ⟨A, c, e, hs⟩ := h2; rw [e]; (with_reducible refine (lineRequests_w A1 c1 L1 A c (L3.map acM) _ (HV1.out.keep (bdrewn hw'.out)) HS1.out hs HK1.out).mono ?_); rintro e w1 ⟨rfl, hr1, hb1⟩; exact ⟨_, rfl, hK _ _ ⟨⟨_, _, rfl, hr1.nv⟩, hb1⟩⟩
    refine ⟨opOK_rx [(11, some 5)] (by kernel_rfl) rfl ?_, ?_⟩
    · intro act w' hw' h1
      have hk : ∀ v, act.eval (.const v) = v := fun _ => rfl
      have hf : ∀ f, act.eval (.func f) = .func (.func f) #[] #[] := fun _ => rfl
      generalize act.eval = ρ at *
      replace h1 : (fun v w => NRz w v L1.length (wishM L1 (L3.map acM))) (ρ (.tmp 11)) w' := h1
      refine gx_gen (fun K hK => ?_)
      obtain ⟨hc, hf'⟩ := bcell (bdrewn hw'.out)
      go_simp
      exact hK _ _ ⟨h1, Gr.refl _⟩
    exact trivial
  case hfin =>
    intro w1 hg1
    intro v6 t6
    replace t6 : v6 = .pointer (some ⟨w.heap.size, 0, none⟩) := t6
    subst t6
    intro v7 t7
    replace t7 : v7 = .slice A1 L1.length c1 := t7
    subst t7
    intro v8 t8
    replace t8 : v8 = .pointer (some ⟨w.heap.size, 2, none⟩) := t8
    subst t8
    intro v9 t9
    replace t9 : v9 = .slice A3 L3.length c3 := t9
    subst t9
    intro v10 t10
    replace t10 : (fun v w => SpR w v (L3.map acM)) v10 w1 := t10
    intro v11 t11
    replace t11 : (fun v w => NRz w v L1.length (wishM L1 (L3.map acM))) v11 w1 := t11
    intro v4 t4
    replace t4 : (fun v w => NRz w v L1.length (wishM L1 (L3.map acM))) v4 w1 := t4
    have hb1 := bdrewn hg1.out
    clear hg1
    simp only [finP, Act.put, List.setIfInBounds_toArray, List.set_cons_succ, List.set_cons_zero]
    obtain ⟨B1, e1, rfl, hn1⟩ := t4
    clear t10 t11 d0 d1 d2 lx
    replace HX := Lib.hid ((hb1.block _ (Array.getElem?_eq_some_iff.1 HX.out).1).trans HX.out)
    replace HV1 := Lib.hid (HV1.out.keep hb1)
    replace HV2 := Lib.hid (HV2.out.keep hb1)
    replace HV3 := Lib.hid (HV3.out.keep hb1)
    replace HB := Lib.hid (bkeep2 HB.out hb1)
    clear hb1
    have HN1 := Lib.hid hn1
    clear hn1
    have d0 := cellS HX.out 0
    have d1 := cellS HX.out 1
    have d2 := cellS HX.out 2
    have lx := ltS HX.out
    go_wp2_with fail
    refine wp_region_rx (XV (.pointer (some ⟨w.heap.size, 1, none⟩)) :: XV (.slice A2 L2.length c2) :: XV (.pointer (some ⟨w.heap.size, 2, none⟩)) :: XV (.slice A3 L3.length c3) :: (fun v w => SpR w v (L3.map dnM)) :: (fun v w => NRz w v L2.length (wishM L2 (L3.map dnM))) :: (fun v w => NRz w v L2.length (wishM L2 (L3.map dnM))) :: []) (by kernel_rfl) (by kernel_rfl) ?hTs ?hops ?hfin
    case hTs =>
      intro T hT
      simp only [List.mem_cons, List.not_mem_nil, or_false] at hT
      rcases hT with rfl | rfl | rfl | rfl | rfl | rfl | rfl <;> first | exact stay_V _ | exact stay_T | exact stay_of (fun v a b x g => x.keep g) | exact stay_of (fun v a b x g => x)
    case hops =>
      refine ⟨opOK_rx [(1, none)] (by kernel_rfl) rfl ?_, ?_⟩
      · intro act w' hw' h1
        have hk : ∀ v, act.eval (.const v) = v := fun _ => rfl
        have hf : ∀ f, act.eval (.func f) = .func (.func f) #[] #[] := fun _ => rfl
        generalize act.eval = ρ at *
        replace h1 : ρ (.tmp 1) = .pointer (some ⟨w.heap.size, 0, none⟩) := h1
        refine gx_gen (fun K hK => ?_)
        obtain ⟨hc, hf'⟩ := bcell (bdrewn hw'.out)
        go_simp
        exact hK _ _ ⟨rfl, Gr.refl _⟩
      refine ⟨opOK_rx [(12, some 0)] (by kernel_rfl) rfl ?_, ?_⟩
      · intro act w' hw' h1
        have hk : ∀ v, act.eval (.const v) = v := fun _ => rfl
        have hf : ∀ f, act.eval (.func f) = .func (.func f) #[] #[] := fun _ => rfl
        generalize act.eval = ρ at *
        replace h1 : ρ (.tmp 12) = .pointer (some ⟨w.heap.size, 1, none⟩) := h1
        refine gx_gen (fun K hK => ?_)
        obtain ⟨hc, hf'⟩ := bcell (bdrewn hw'.out)
        go_simp
        exact hK _ _ ⟨rfl, Gr.refl _⟩
      refine ⟨opOK_rx [(1, none)] (by kernel_rfl) rfl ?_, ?_⟩
      · intro act w' hw' h1
        have hk : ∀ v, act.eval (.const v) = v := fun _ => rfl
        have hf : ∀ f, act.eval (.func f) = .func (.func f) #[] #[] := fun _ => rfl
        generalize act.eval = ρ at *
        replace h1 : ρ (.tmp 1) = .pointer (some ⟨w.heap.size, 0, none⟩) := h1
        refine gx_gen (fun K hK => ?_)
        obtain ⟨hc, hf'⟩ := bcell (bdrewn hw'.out)
        go_simp
        exact hK _ _ ⟨rfl, Gr.refl _⟩
      refine ⟨opOK_rx [(14, some 2)] (by kernel_rfl) rfl ?_, ?_⟩
      · intro act w' hw' h1
        have hk : ∀ v, act.eval (.const v) = v := fun _ => rfl
        have hf : ∀ f, act.eval (.func f) = .func (.func f) #[] #[] := fun _ => rfl
        generalize act.eval = ρ at *
        replace h1 : ρ (.tmp 14) = .pointer (some ⟨w.heap.size, 2, none⟩) := h1
        refine gx_gen (fun K hK => ?_)
        obtain ⟨hc, hf'⟩ := bcell (bdrewn hw'.out)
        go_simp
        exact hK _ _ ⟨rfl, Gr.refl _⟩
      refine ⟨opOK_rx [(15, some 3)] (by kernel_rfl) rfl ?_, ?_⟩
      · intro act w' hw' h1
        have hk : ∀ v, act.eval (.const v) = v := fun _ => rfl
        have hf : ∀ f, act.eval (.func f) = .func (.func f) #[] #[] := fun _ => rfl
        generalize act.eval = ρ at *
        replace h1 : ρ (.tmp 15) = .slice A3 L3.length c3 := h1
        refine gx_gen (fun K hK => ?_)
        obtain ⟨hc, hf'⟩ := bcell (bdrewn hw'.out)
        go_simp
        (with_reducible refine (each_downW A3 c3 L3 _ (HV3.out.keep (bdrewn hw'.out)) (by omega) HSM.out).mono ?_); rintro e w1 ⟨rfl, hr1, hb1⟩; exact ⟨_, rfl, hK _ _ ⟨⟨_, _, by rw [List.length_map], hr1.v⟩, hb1⟩⟩
      refine ⟨opOK_rx [(13, some 1), (16, some 4)] (by kernel_rfl) rfl ?_, ?_⟩
      · intro act w' hw' h1 h2
        have hk : ∀ v, act.eval (.const v) = v := fun _ => rfl
        have hf : ∀ f, act.eval (.func f) = .func (.func f) #[] #[] := fun _ => rfl
        generalize act.eval = ρ at *
        replace h1 : ρ (.tmp 13) = .slice A2 L2.length c2 := h1
        replace h2 : (fun v w => SpR w v (L3.map dnM)) (ρ (.tmp 16)) w' := h2
        refine gx_gen (fun K hK => ?_)
        obtain ⟨hc, hf'⟩ := bcell (bdrewn hw'.out)
        go_simp
        obtain ⟨A, c, e, hs⟩ := h2; rw [e]; (with_reducible refine (lineRequests_w A2 c2 L2 A c (L3.map dnM) _ (HV2.out.keep (bdrewn hw'.out)) HS2.out hs HK2.out).mono ?_); rintro e w1 ⟨rfl, hr1, hb1⟩; exact ⟨_, rfl, hK _ _ ⟨⟨_, _, rfl, hr1.nv⟩, hb1⟩⟩
      refine ⟨opOK_rx [(17, some 5)] (by kernel_rfl) rfl ?_, ?_⟩
      · intro act w' hw' h1
        have hk : ∀ v, act.eval (.const v) = v := fun _ => rfl
        have hf : ∀ f, act.eval (.func f) = .func (.func f) #[] #[] := fun _ => rfl
        generalize act.eval = ρ at *
        replace h1 : (fun v w => NRz w v L2.length (wishM L2 (L3.map dnM))) (ρ (.tmp 17)) w' := h1
        refine gx_gen (fun K hK => ?_)
        obtain ⟨hc, hf'⟩ := bcell (bdrewn hw'.out)
        go_simp
        exact hK _ _ ⟨h1, Gr.refl _⟩
      exact trivial
    case hfin =>
      intro w2 hg2
      intro v12 t12
      replace t12 : v12 = .pointer (some ⟨w.heap.size, 1, none⟩) := t12
      subst t12
      intro v13 t13
      replace t13 : v13 = .slice A2 L2.length c2 := t13
      subst t13
      intro v14 t14
      replace t14 : v14 = .pointer (some ⟨w.heap.size, 2, none⟩) := t14
      subst t14
      intro v15 t15
      replace t15 : v15 = .slice A3 L3.length c3 := t15
      subst t15
      intro v16 t16
      replace t16 : (fun v w => SpR w v (L3.map dnM)) v16 w2 := t16
      intro v17 t17
      replace t17 : (fun v w => NRz w v L2.length (wishM L2 (L3.map dnM))) v17 w2 := t17
      intro v5 t5
      replace t5 : (fun v w => NRz w v L2.length (wishM L2 (L3.map dnM))) v5 w2 := t5
      have hb2 := bdrewn hg2.out
      clear hg2
      simp only [finP, Act.put, List.setIfInBounds_toArray, List.set_cons_succ, List.set_cons_zero]
      obtain ⟨B2, e2, rfl, hn2⟩ := t5
      clear t16 t17 d0 d1 d2 lx
      replace HX := Lib.hid ((hb2.block _ (Array.getElem?_eq_some_iff.1 HX.out).1).trans HX.out)
      replace HN1 := Lib.hid (HN1.out.keep hb2)
      replace HB := Lib.hid (bkeep2 HB.out hb2)
      clear hb2
      have HN2 := Lib.hid hn2
      clear hn2
      go_wp2_with fail
      with_reducible refine (sum_b B1 e1 L1.length _ _ HN1.out HL1.out.symm (by omega) HM1.out).mono ?_
      rintro e w3 ⟨rfl, hb3⟩
      replace HX := Lib.hid ((hb3.block _ (Array.getElem?_eq_some_iff.1 HX.out).1).trans HX.out)
      replace HN2 := Lib.hid (HN2.out.keep hb3)
      replace HB := Lib.hid (bkeep2 HB.out hb3)
      clear hb3
      go_wp2_with fail
      with_reducible refine (sum_b B2 e2 L2.length _ _ HN2.out HL2.out.symm (by omega) HM2.out).mono ?_
      rintro e w4 ⟨rfl, hb4⟩
      replace HX := Lib.hid ((hb4.block _ (Array.getElem?_eq_some_iff.1 HX.out).1).trans HX.out)
      replace HB := Lib.hid (bkeep2 HB.out hb4)
      clear hb4
      go_wp2
      exact bodyPost_ret (v := .tuple #[.int .i64 (sumI (wishM L1 (L3.map acM))), .int .i64 (sumI (wishM L2 (L3.map dnM)))]) (by simp only [results, Tryz.results154]; go_simp) rfl ⟨rfl, HB.out⟩
set_option maxRecDepth 100000 in
theorem sgridRequest_w (A1 : Option Addr) (c1 : Nat) (L1 : List Ln) (A2 : Option Addr) (c2 : Nat) (L2 : List Ln) (A3 : Option Addr) (c3 : Nat) (L3 : List Ce) (w : World) (h1 : LnV w A1 L1) (h2 : LnV w A2 L2) (h3 : CeV w A3 L3) (v1 : linesB L1 = true) (v2 : linesB L2 = true) (hl8 : L3.length ≤ 10) (hsm : ∀ p ∈ L3, smW p) (hs1 : spansW L1.length (L3.map acM)) (hs2 : spansW L2.length (L3.map dnM)) (k1 : L1.length ≤ c1) (k2 : L2.length ≤ c2) :
    Calls Tryz.prog 56 #[.agg #[.slice A1 L1.length c1, .slice A2 L2.length c2, .slice A3 L3.length c3]] w fun e w' => e = .returned (.tuple #[.int .i64 (sumI (wishM L1 (L3.map acM))), .int .i64 (sumI (wishM L2 (L3.map dnM)))]) ∧ Below w.heap.size w w' := by
  obtain ⟨m1, q1⟩ := wish_smalW v1 hs1
  obtain ⟨m2, q2⟩ := wish_smalW v2 hs2
  have n1 := (linesB_len v1).2
  have n2 := (linesB_len v2).2
  have hB0 : Below w.heap.size w (w.alloc (.cells #[.slice A1 L1.length c1, .slice A2 L2.length c2, .slice A3 L3.length c3] 98 (0, 0))) := balloc (Below.refl _ _)
  have hx0 := newS w (.cells #[.slice A1 L1.length c1, .slice A2 L2.length c2, .slice A3 L3.length c3] 98 (0, 0))
  have HV1 := Lib.hid (h1.keep hB0)
  have HV2 := Lib.hid (h2.keep hB0)
  have HV3 := Lib.hid (h3.keep hB0)
  have HX := Lib.hid hx0
  have HB := Lib.hid hB0
  have HS1 := Lib.hid v1
  have HS2 := Lib.hid v2
  have HM1 := Lib.hid m1
  have HM2 := Lib.hid m2
  have HSM := Lib.hid hsm
  have HK1 := Lib.hid hs1
  have HK2 := Lib.hid hs2
  have HL1 := Lib.hid q1
  have HL2 := Lib.hid q2
  clear hB0 hx0 h1 h2 h3 v1 v2 m1 m2 hsm hs1 hs2 q1 q2
  go_enter Tryz.func56, Tryz.ntmps56
  have d0 := cellS HX.out 0
  have d1 := cellS HX.out 1
  have d2 := cellS HX.out 2
  have lx := ltS HX.out
  go_wp2_with fail
  refine wp_region_rx (XV (.pointer (some ⟨w.heap.size, 0, none⟩)) :: XV (.slice A1 L1.length c1) :: XV (.agg #[.slice A1 L1.length c1, .slice A2 L2.length c2, .slice A3 L3.length c3]) :: (fun v w => SpR w v (L3.map acM)) :: (fun v w => NRz w v L1.length (wishM L1 (L3.map acM))) :: XV (.int .i64 (sumI (wishM L1 (L3.map acM)))) :: XV (.pointer (some ⟨w.heap.size, 1, none⟩)) :: XV (.slice A2 L2.length c2) :: XV (.agg #[.slice A1 L1.length c1, .slice A2 L2.length c2, .slice A3 L3.length c3]) :: (fun v w => SpR w v (L3.map dnM)) :: (fun v w => NRz w v L2.length (wishM L2 (L3.map dnM))) :: XV (.int .i64 (sumI (wishM L2 (L3.map dnM)))) :: XV (.int .i64 (sumI (wishM L1 (L3.map acM)))) :: XV (.int .i64 (sumI (wishM L2 (L3.map dnM)))) :: []) (by kernel_rfl) (by kernel_rfl) ?hTs ?hops ?hfin
  case hTs =>
    intro T hT
    simp only [List.mem_cons, List.not_mem_nil, or_false] at hT
    rcases hT with rfl | rfl | rfl | rfl | rfl | rfl | rfl | rfl | rfl | rfl | rfl | rfl | rfl | rfl <;> first | exact stay_V _ | exact stay_T | exact stay_of (fun v a b x g => x.keep g) | exact stay_of (fun v a b x g => x)
  case hops =>
    refine ⟨opOK_rx [(1, none)] (by kernel_rfl) rfl ?_, ?_⟩
    · intro act w' hw' h1
      have hk : ∀ v, act.eval (.const v) = v := fun _ => rfl
      have hf : ∀ f, act.eval (.func f) = .func (.func f) #[] #[] := fun _ => rfl
      generalize act.eval = ρ at *
      replace h1 : ρ (.tmp 1) = .pointer (some ⟨w.heap.size, 0, none⟩) := h1
      refine gx_gen (fun K hK => ?_)
      obtain ⟨hc, hf'⟩ := bcell (bdrewn hw'.out)
      go_simp
      exact hK _ _ ⟨rfl, Gr.refl _⟩
    refine ⟨opOK_rx [(4, some 0)] (by kernel_rfl) rfl ?_, ?_⟩
    · intro act w' hw' h1
      have hk : ∀ v, act.eval (.const v) = v := fun _ => rfl
      have hf : ∀ f, act.eval (.func f) = .func (.func f) #[] #[] := fun _ => rfl
      generalize act.eval = ρ at *
      replace h1 : ρ (.tmp 4) = .pointer (some ⟨w.heap.size, 0, none⟩) := h1
      refine gx_gen (fun K hK => ?_)
      obtain ⟨hc, hf'⟩ := bcell (bdrewn hw'.out)
      go_simp
      exact hK _ _ ⟨rfl, Gr.refl _⟩
    refine ⟨opOK_rx [(1, none)] (by kernel_rfl) rfl ?_, ?_⟩
    · intro act w' hw' h1
      have hk : ∀ v, act.eval (.const v) = v := fun _ => rfl
      have hf : ∀ f, act.eval (.func f) = .func (.func f) #[] #[] := fun _ => rfl
      generalize act.eval = ρ at *
      replace h1 : ρ (.tmp 1) = .pointer (some ⟨w.heap.size, 0, none⟩) := h1
      refine gx_gen (fun K hK => ?_)
      obtain ⟨hc, hf'⟩ := bcell (bdrewn hw'.out)
      go_simp
      exact hK _ _ ⟨rfl, Gr.refl _⟩
    refine ⟨opOK_rx [(6, some 2)] (by kernel_rfl) rfl ?_, ?_⟩
    · intro act w' hw' h1
      have hk : ∀ v, act.eval (.const v) = v := fun _ => rfl
      have hf : ∀ f, act.eval (.func f) = .func (.func f) #[] #[] := fun _ => rfl
      generalize act.eval = ρ at *
      replace h1 : ρ (.tmp 6) = .agg #[.slice A1 L1.length c1, .slice A2 L2.length c2, .slice A3 L3.length c3] := h1
      refine gx_gen (fun K hK => ?_)
      obtain ⟨hc, hf'⟩ := bcell (bdrewn hw'.out)
      go_simp
      (with_reducible refine (colSpans_w A1 A2 A3 c1 L1.length c2 L2.length c3 L3 _ (HV3.out.keep (bdrewn hw'.out)) hl8 HSM.out).mono ?_); rintro e w1 ⟨⟨v, rfl, hr1⟩, hb1⟩; exact ⟨_, rfl, hK _ _ ⟨hr1, hb1⟩⟩
    refine ⟨opOK_rx [(5, some 1), (7, some 3)] (by kernel_rfl) rfl ?_, ?_⟩
    · intro act w' hw' h1 h2
      have hk : ∀ v, act.eval (.const v) = v := fun _ => rfl
      have hf : ∀ f, act.eval (.func f) = .func (.func f) #[] #[] := fun _ => rfl
      generalize act.eval = ρ at *
      replace h1 : ρ (.tmp 5) = .slice A1 L1.length c1 := h1
      replace h2 : (fun v w => SpR w v (L3.map acM)) (ρ (.tmp 7)) w' := h2
      refine gx_gen (fun K hK => ?_)
      obtain ⟨hc, hf'⟩ := bcell (bdrewn hw'.out)
      go_simp
      obtain ⟨A, c, e, hs⟩ := h2; rw [e]; (with_reducible refine (wished_w A1 c1 L1 A c (L3.map acM) _ (HV1.out.keep (bdrewn hw'.out)) HS1.out hs HK1.out k1).mono ?_); rintro e w1 ⟨⟨g, cap, rfl, _, hr1⟩, hb1⟩; exact ⟨_, rfl, hK _ _ ⟨⟨_, _, rfl, hr1.nv⟩, hb1⟩⟩
    refine ⟨opOK_rx [(8, some 4)] (by kernel_rfl) rfl ?_, ?_⟩
    · intro act w' hw' h1
      have hk : ∀ v, act.eval (.const v) = v := fun _ => rfl
      have hf : ∀ f, act.eval (.func f) = .func (.func f) #[] #[] := fun _ => rfl
      generalize act.eval = ρ at *
      replace h1 : (fun v w => NRz w v L1.length (wishM L1 (L3.map acM))) (ρ (.tmp 8)) w' := h1
      refine gx_gen (fun K hK => ?_)
      obtain ⟨hc, hf'⟩ := bcell (bdrewn hw'.out)
      go_simp
      obtain ⟨A, c, e, hs⟩ := h1; rw [e]; (with_reducible refine (total_b A c L1.length _ _ hs HL1.out.symm (by omega) HM1.out).mono ?_); rintro e w1 ⟨rfl, hb1⟩; exact ⟨_, rfl, hK _ _ ⟨rfl, hb1⟩⟩
    refine ⟨opOK_rx [(1, none)] (by kernel_rfl) rfl ?_, ?_⟩
    · intro act w' hw' h1
      have hk : ∀ v, act.eval (.const v) = v := fun _ => rfl
      have hf : ∀ f, act.eval (.func f) = .func (.func f) #[] #[] := fun _ => rfl
      generalize act.eval = ρ at *
      replace h1 : ρ (.tmp 1) = .pointer (some ⟨w.heap.size, 0, none⟩) := h1
      refine gx_gen (fun K hK => ?_)
      obtain ⟨hc, hf'⟩ := bcell (bdrewn hw'.out)
      go_simp
      exact hK _ _ ⟨rfl, Gr.refl _⟩
    refine ⟨opOK_rx [(10, some 6)] (by kernel_rfl) rfl ?_, ?_⟩
    · intro act w' hw' h1
      have hk : ∀ v, act.eval (.const v) = v := fun _ => rfl
      have hf : ∀ f, act.eval (.func f) = .func (.func f) #[] #[] := fun _ => rfl
      generalize act.eval = ρ at *
      replace h1 : ρ (.tmp 10) = .pointer (some ⟨w.heap.size, 1, none⟩) := h1
      refine gx_gen (fun K hK => ?_)
      obtain ⟨hc, hf'⟩ := bcell (bdrewn hw'.out)
      go_simp
      exact hK _ _ ⟨rfl, Gr.refl _⟩
    refine ⟨opOK_rx [(1, none)] (by kernel_rfl) rfl ?_, ?_⟩
    · intro act w' hw' h1
      have hk : ∀ v, act.eval (.const v) = v := fun _ => rfl
      have hf : ∀ f, act.eval (.func f) = .func (.func f) #[] #[] := fun _ => rfl
      generalize act.eval = ρ at *
      replace h1 : ρ (.tmp 1) = .pointer (some ⟨w.heap.size, 0, none⟩) := h1
      refine gx_gen (fun K hK => ?_)
      obtain ⟨hc, hf'⟩ := bcell (bdrewn hw'.out)
      go_simp
      exact hK _ _ ⟨rfl, Gr.refl _⟩
    refine ⟨opOK_rx [(12, some 8)] (by kernel_rfl) rfl ?_, ?_⟩
    · intro act w' hw' h1
      have hk : ∀ v, act.eval (.const v) = v := fun _ => rfl
      have hf : ∀ f, act.eval (.func f) = .func (.func f) #[] #[] := fun _ => rfl
      generalize act.eval = ρ at *
      replace h1 : ρ (.tmp 12) = .agg #[.slice A1 L1.length c1, .slice A2 L2.length c2, .slice A3 L3.length c3] := h1
      refine gx_gen (fun K hK => ?_)
      obtain ⟨hc, hf'⟩ := bcell (bdrewn hw'.out)
      go_simp
      (with_reducible refine (rowSpans_w A1 A2 A3 c1 L1.length c2 L2.length c3 L3 _ (HV3.out.keep (bdrewn hw'.out)) hl8 HSM.out).mono ?_); rintro e w1 ⟨⟨v, rfl, hr1⟩, hb1⟩; exact ⟨_, rfl, hK _ _ ⟨hr1, hb1⟩⟩
    refine ⟨opOK_rx [(11, some 7), (13, some 9)] (by kernel_rfl) rfl ?_, ?_⟩
    · intro act w' hw' h1 h2
      have hk : ∀ v, act.eval (.const v) = v := fun _ => rfl
      have hf : ∀ f, act.eval (.func f) = .func (.func f) #[] #[] := fun _ => rfl
      generalize act.eval = ρ at *
      replace h1 : ρ (.tmp 11) = .slice A2 L2.length c2 := h1
      replace h2 : (fun v w => SpR w v (L3.map dnM)) (ρ (.tmp 13)) w' := h2
      refine gx_gen (fun K hK => ?_)
      obtain ⟨hc, hf'⟩ := bcell (bdrewn hw'.out)
      go_simp
      obtain ⟨A, c, e, hs⟩ := h2; rw [e]; (with_reducible refine (wished_w A2 c2 L2 A c (L3.map dnM) _ (HV2.out.keep (bdrewn hw'.out)) HS2.out hs HK2.out k2).mono ?_); rintro e w1 ⟨⟨g, cap, rfl, _, hr1⟩, hb1⟩; exact ⟨_, rfl, hK _ _ ⟨⟨_, _, rfl, hr1.nv⟩, hb1⟩⟩
    refine ⟨opOK_rx [(14, some 10)] (by kernel_rfl) rfl ?_, ?_⟩
    · intro act w' hw' h1
      have hk : ∀ v, act.eval (.const v) = v := fun _ => rfl
      have hf : ∀ f, act.eval (.func f) = .func (.func f) #[] #[] := fun _ => rfl
      generalize act.eval = ρ at *
      replace h1 : (fun v w => NRz w v L2.length (wishM L2 (L3.map dnM))) (ρ (.tmp 14)) w' := h1
      refine gx_gen (fun K hK => ?_)
      obtain ⟨hc, hf'⟩ := bcell (bdrewn hw'.out)
      go_simp
      obtain ⟨A, c, e, hs⟩ := h1; rw [e]; (with_reducible refine (total_b A c L2.length _ _ hs HL2.out.symm (by omega) HM2.out).mono ?_); rintro e w1 ⟨rfl, hb1⟩; exact ⟨_, rfl, hK _ _ ⟨rfl, hb1⟩⟩
    refine ⟨opOK_rx [(9, some 5)] (by kernel_rfl) rfl ?_, ?_⟩
    · intro act w' hw' h1
      have hk : ∀ v, act.eval (.const v) = v := fun _ => rfl
      have hf : ∀ f, act.eval (.func f) = .func (.func f) #[] #[] := fun _ => rfl
      generalize act.eval = ρ at *
      replace h1 : ρ (.tmp 9) = .int .i64 (sumI (wishM L1 (L3.map acM))) := h1
      refine gx_gen (fun K hK => ?_)
      obtain ⟨hc, hf'⟩ := bcell (bdrewn hw'.out)
      go_simp
      exact hK _ _ ⟨rfl, Gr.refl _⟩
    refine ⟨opOK_rx [(15, some 11)] (by kernel_rfl) rfl ?_, ?_⟩
    · intro act w' hw' h1
      have hk : ∀ v, act.eval (.const v) = v := fun _ => rfl
      have hf : ∀ f, act.eval (.func f) = .func (.func f) #[] #[] := fun _ => rfl
      generalize act.eval = ρ at *
      replace h1 : ρ (.tmp 15) = .int .i64 (sumI (wishM L2 (L3.map dnM))) := h1
      refine gx_gen (fun K hK => ?_)
      obtain ⟨hc, hf'⟩ := bcell (bdrewn hw'.out)
      go_simp
      exact hK _ _ ⟨rfl, Gr.refl _⟩
    exact trivial
  case hfin =>
    intro w1 hg1
    intro v4 t4
    replace t4 : v4 = .pointer (some ⟨w.heap.size, 0, none⟩) := t4
    subst t4
    intro v5 t5
    replace t5 : v5 = .slice A1 L1.length c1 := t5
    subst t5
    intro v6 t6
    replace t6 : v6 = .agg #[.slice A1 L1.length c1, .slice A2 L2.length c2, .slice A3 L3.length c3] := t6
    subst t6
    intro v7 t7
    replace t7 : (fun v w => SpR w v (L3.map acM)) v7 w1 := t7
    intro v8 t8
    replace t8 : (fun v w => NRz w v L1.length (wishM L1 (L3.map acM))) v8 w1 := t8
    intro v9 t9
    replace t9 : v9 = .int .i64 (sumI (wishM L1 (L3.map acM))) := t9
    subst t9
    intro v10 t10
    replace t10 : v10 = .pointer (some ⟨w.heap.size, 1, none⟩) := t10
    subst t10
    intro v11 t11
    replace t11 : v11 = .slice A2 L2.length c2 := t11
    subst t11
    intro v12 t12
    replace t12 : v12 = .agg #[.slice A1 L1.length c1, .slice A2 L2.length c2, .slice A3 L3.length c3] := t12
    subst t12
    intro v13 t13
    replace t13 : (fun v w => SpR w v (L3.map dnM)) v13 w1 := t13
    intro v14 t14
    replace t14 : (fun v w => NRz w v L2.length (wishM L2 (L3.map dnM))) v14 w1 := t14
    intro v15 t15
    replace t15 : v15 = .int .i64 (sumI (wishM L2 (L3.map dnM))) := t15
    subst t15
    intro v2 t2
    replace t2 : v2 = .int .i64 (sumI (wishM L1 (L3.map acM))) := t2
    subst t2
    intro v3 t3
    replace t3 : v3 = .int .i64 (sumI (wishM L2 (L3.map dnM))) := t3
    subst t3
    have hb1 := bdrewn hg1.out
    clear hg1
    simp only [finP, Act.put, List.setIfInBounds_toArray, List.set_cons_succ, List.set_cons_zero]
    clear t7 t8 t13 t14 d0 d1 d2 lx
    replace HX := Lib.hid ((hb1.block _ (Array.getElem?_eq_some_iff.1 HX.out).1).trans HX.out)
    replace HB := Lib.hid (bkeep2 HB.out hb1)
    clear hb1
    go_wp2
    exact bodyPost_ret (v := .tuple #[.int .i64 (sumI (wishM L1 (L3.map acM))), .int .i64 (sumI (wishM L2 (L3.map dnM)))]) (by simp only [results, Tryz.results56]; go_simp) rfl ⟨rfl, HB.out⟩
end Go.Proofs.YtgdkionmeacalabGreat
end
section
namespace Go.Proofs.YtgdkionmeacalabGreat
open Go.RowKit
set_option linter.unusedVariables false
set_option maxHeartbeats 1000000
end Go.Proofs.YtgdkionmeacalabGreat
end
section
namespace Go.Proofs.YtgdkionmeacalabGreat
open Go.RowKit
set_option linter.unusedVariables false
set_option maxHeartbeats 1000000
attribute [local go_sem] growUpon_value growUpon_skip growUpon_enter
attribute [local go_sem] givesUpon_value givesUpon_skip givesUpon_enter
/-- what a grid asks for -/
def gqM (L1 L2 : List Ln) (L3 : List Ce) : Int × Int := if gridB L1 L2 L3 = true then (sumI (wishM L1 (L3.map acM)), sumI (wishM L2 (L3.map dnM))) else (-1, -1)
end Go.Proofs.YtgdkionmeacalabGreat
end
section
namespace Go.Proofs.YtgdkionmeacalabGreat
open Go.RowKit
set_option linter.unusedVariables false
set_option maxHeartbeats 1000000
attribute [local go_sem 5000] run_mx run_mn
attribute [local go_sem] growUpon_value growUpon_skip growUpon_enter
end Go.Proofs.YtgdkionmeacalabGreat
end
section
namespace Go.Proofs.YtgdkionmeacalabGreat
open Go.RowKit
set_option linter.unusedVariables false
set_option maxHeartbeats 1000000
attribute [local go_sem] growUpon_value growUpon_skip growUpon_enter
end Go.Proofs.YtgdkionmeacalabGreat
end
section
namespace Go.Proofs.YtgdkionmeacalabGreat
open Go.RowKit
set_option linter.unusedVariables false
set_option maxHeartbeats 2000000
attribute [local go_sem] givesUpon_value givesUpon_skip givesUpon_enter
structure HG (B rb bx b0 : Nat) (A : Option Addr) (n c : Nat) (A1 : Option Addr) (n1 c1 : Nat) (A2 : Option Addr) (n2 c2 : Nat) (A3 : Option Addr) (n3 c3 : Nat) (m : Nat) (w : World) : Prop where
  rd : Rd B rb A n c m w
  hx : w.heap[bx]? = some (.cells #[.slice A1 n1 c1, .slice A2 n2 c2, .slice A3 n3 c3] 98 (0, 0))
  h0 : w.heap[b0]? = some (.cells #[.slice none 0 0, .slice none 0 0, .slice none 0 0] 98 (0, 0)) ∨ w.heap[b0]? = some (.cells #[.slice A1 n1 c1, .slice A2 n2 c2, .slice A3 n3 c3] 98 (0, 0))
  n1 : bx ≠ rb
  n2 : b0 ≠ rb
  n3 : bx ≠ b0
  l1 : B ≤ b0
section
variable {B rb bx b0 : Nat} {A : Option Addr} {n c : Nat} {A1 : Option Addr} {n1 c1 : Nat} {A2 : Option Addr} {n2 c2 : Nat} {A3 : Option Addr} {n3 c3 : Nat} {m : Nat} {w w' : World}
theorem HG.lt0 (h : HG B rb bx b0 A n c A1 n1 c1 A2 n2 c2 A3 n3 c3 m w) : b0 < w.heap.size := by rcases h.h0 with ha | ha <;> exact ltS ha
theorem HG.base (h : HG B rb bx b0 A n c A1 n1 c1 A2 n2 c2 A3 n3 c3 m w) : B ≤ w.heap.size := by have := h.rd.lt; have := h.rd.base; omega
theorem HG.lts (h : HG B rb bx b0 A n c A1 n1 c1 A2 n2 c2 A3 n3 c3 m w) : ∀ k ∈ [rb, b0], k < w.heap.size := by
  have h1 := h.rd.lt
  have h2 := h.lt0
  simp [h1, h2]
theorem HG.next (h : HG B rb bx b0 A n c A1 n1 c1 A2 n2 c2 A3 n3 c3 m w) : HG B rb bx b0 A n c A1 n1 c1 A2 n2 c2 A3 n3 c3 (m + 1) w := ⟨h.rd.mono (by omega), h.hx, h.h0, h.n1, h.n2, h.n3, h.l1⟩
theorem HG.drew (h : HG B rb bx b0 A n c A1 n1 c1 A2 n2 c2 A3 n3 c3 m w) : HG B rb bx b0 A n c A1 n1 c1 A2 n2 c2 A3 n3 c3 m w.drew := ⟨h.rd.drew, h.hx, h.h0, h.n1, h.n2, h.n3, h.l1⟩
theorem HG.alloc (h : HG B rb bx b0 A n c A1 n1 c1 A2 n2 c2 A3 n3 c3 m w) (o : Obj) : HG B rb bx b0 A n c A1 n1 c1 A2 n2 c2 A3 n3 c3 (m + 1) (w.alloc o) :=
  ⟨(h.rd.alloc o).mono (by omega), (Below.heap_alloc _ _ _ (ltS h.hx)).trans h.hx, h.h0.imp (fun ha => (Below.heap_alloc _ _ _ (ltS ha)).trans ha) (fun ha => (Below.heap_alloc _ _ _ (ltS ha)).trans ha), h.n1, h.n2, h.n3, h.l1⟩
theorem HG.call {m' : Nat} (h : HG B rb bx b0 A n c A1 n1 c1 A2 n2 c2 A3 n3 c3 m w) (hr : Rd B rb A n c m' w') (hc : Chg [rb] w w') : HG B rb bx b0 A n c A1 n1 c1 A2 n2 c2 A3 n3 c3 m' w' :=
  ⟨hr, (hc.block _ (ltS h.hx) (by simpa using h.n1)).trans h.hx, h.h0.imp (fun ha => (hc.block _ (ltS ha) (by simpa using h.n2)).trans ha) (fun ha => (hc.block _ (ltS ha) (by simpa using h.n2)).trans ha), h.n1, h.n2, h.n3, h.l1⟩
end
def GAout (e : Ending) (w' : World) : Prop := ∃ (A1 : Option Addr) (c1 : Nat) (L1 : List Ln) (A2 : Option Addr) (c2 : Nat) (L2 : List Ln) (A3 : Option Addr) (c3 : Nat) (L3 : List Ce) (u v x y : Int), e = .returned (.tuple #[.agg #[.slice A1 L1.length c1, .slice A2 L2.length c2, .slice A3 L3.length c3], .int .i64 u, .int .i64 v, .int .i64 x, .int .i64 y]) ∧ LnV w' A1 L1 ∧ LnV w' A2 L2 ∧ CeV w' A3 L3 ∧ (L1.length ≤ 5 ∧ L2.length ≤ 5 ∧ L3.length ≤ 8) ∧ L1.length ≤ c1 ∧ L2.length ≤ c2 ∧ L3.length ≤ c3 ∧ (-1 ≤ u ∧ u ≤ 3000) ∧ (-1 ≤ v ∧ v ≤ 3000)
end Go.Proofs.YtgdkionmeacalabGreat
end
