import Derived.Test.YtjfdmdmlgdgchaaDoorQ09
import Derived.Lay
import Derived.HandedShaped
import Derived.Shelf.Vars
section
namespace Go.Proofs.YtjfdmdmlgdgchaaDoor
open Go.RowKit
set_option linter.unusedVariables false
set_option linter.unusedSimpArgs false
set_option maxHeartbeats 2000000
attribute [local go_sem] growUpon_value growUpon_skip growUpon_enter
/-! ParsePacks, both sides. -/
theorem pvals_getP : ∀ {M : List Pk} {i : Nat} {r : Pk}, M[i]? = some r → ∀ j, j < 9 → (pvals M)[i * 9 + j]? = (vals9 r)[j]?
  | [], i, r, h, _, _ => by simp at h
  | q :: t, 0, r, h, j, hj => by
    simp at h; subst h
    show (vals9 q ++ pvals t)[0 * 9 + j]? = _
    rw [List.getElem?_append_left (by simp [vals9]; omega)]; simp
  | q :: t, i + 1, r, h, j, hj => by
    show (vals9 q ++ pvals t)[(i + 1) * 9 + j]? = _
    rw [List.getElem?_append_right (by simp [vals9]; omega)]
    have := pvals_getP (M := t) (i := i) (r := r) (by simpa using h) j hj
    rw [← this]; congr 1; simp [vals9]; omega
/-- items of one's own -/
def OWP (base : Nat) (L : List Pk) (w : World) (v : Value) : Prop := base ≤ w.heap.size ∧ w.ownsRow base 23 9 v L.length (pvals L)
theorem OWP.keep {base : Nat} {L : List Pk} {w w' : World} {v : Value} (h : OWP base L w v) (hb : Below w.heap.size w w') : OWP base L w' v :=
  ⟨Nat.le_trans h.1 hb.size, h.2.kept (row := none) ⟨hb.os, hb.tape, hb.output, hb.size, fun k hk _ => hb.block k hk⟩ (by cases e : v.ownBlock <;> simp)⟩
theorem OWP.slice {base : Nat} {L : List Pk} {w : World} {v : Value} (h : OWP base L w v) : ∃ A c, v = .slice A L.length c := by
  rcases h.2.2 with ⟨rfl, h0⟩ | ⟨g, cap, cur, rfl, _⟩
  · exact ⟨none, 0, by rw [h0]⟩
  · exact ⟨_, _, rfl⟩
/-- a list in a block from lo on that has room, or none -/
def GPO (lo : Nat) (w : World) (v : Value) (M : List Pk) : Prop := (v = .slice none 0 0 ∧ M = []) ∨ ∃ g cap n, v = .slice (some ⟨g, 0, none⟩) n cap ∧ n = M.length ∧ lo ≤ g ∧ PB9 w g cap M
theorem OWP.go {base : Nat} {L : List Pk} {w : World} {v : Value} (h : OWP base L w v) : GPO base w v L := by
  rcases h.2.2 with ⟨rfl, h0⟩ | ⟨g, cap, cur, rfl, hb, hg, hc, _, hs, ht⟩
  · exact .inl ⟨rfl, List.length_eq_zero_iff.1 (by omega)⟩
  · refine .inr ⟨g, cap, L.length, rfl, rfl, hb, hc, cur, hg, hs, fun i r hr j hj => ?_⟩
    have e : (vals r)[j]? = (vals9 r)[j]? := rfl
    rw [e, ← pvals_getP hr j hj, ← ht, List.getElem?_take]
    have : i < L.length := (List.getElem?_eq_some_iff.1 hr).1
    rw [if_pos (by omega)]; simp
theorem GPO.keep {lo : Nat} {w w' : World} {v : Value} {M : List Pk} (h : GPO lo w v M) (hb : Below w.heap.size w w') : GPO lo w' v M := h.imp id fun ⟨g, cap, n, h1, h2, h3, hk⟩ => ⟨g, cap, n, h1, h2, h3, hk.keep hb⟩
/-- a value that reads as items -/
def PRd (w : World) (v : Value) (M : List Pk) : Prop := ∃ A c n, v = .slice A n c ∧ n = M.length ∧ n ≤ c ∧ PV w A M
theorem GPO.rd {lo : Nat} {w : World} {v : Value} {M : List Pk} (h : GPO lo w v M) : PRd w v M := by
  rcases h with ⟨rfl, rfl⟩ | ⟨g, cap, n, rfl, hn, _, hk⟩
  · exact ⟨none, 0, 0, rfl, rfl, Nat.le_refl _, ⟨fun h => absurd h (by simp)⟩⟩
  · exact ⟨_, _, _, rfl, hn, by have := hk.1; omega, hk.pv⟩
theorem PRd.keep {w w' : World} {v : Value} {M : List Pk} (h : PRd w v M) (hb : Below w.heap.size w w') : PRd w' v M := let ⟨A, c, n, h1, h2, h3, hk⟩ := h; ⟨A, c, n, h1, h2, h3, hk.keep hb⟩
theorem neq_nil (w : World) : (binOp .neq 9 (tx []) (.string ⟨#[]⟩)).run Tryd.prog w = .ok (.bool false) w := by
  unfold tx
  go_simp
theorem neq_no (a : List UInt8) (h : a ≠ []) (w : World) : (binOp .neq 9 (tx a) (.string ⟨#[]⟩)).run Tryd.prog w = .ok (.bool true) w := by
  have h' := txs_ne h
  unfold tx
  go_simp
def slen : Value → Nat
  | .string s => s.size
  | _ => 0
theorem slen_tx (l : List UInt8) : slen (tx l) = l.length := by simp [slen, tx, ByteArray.size]
theorem below_drewN {B : Nat} {a w : World} (h : Below B a w) (n : Nat) : Below B a (w.drewN n) := ⟨h.os, h.tape, h.output, h.size, h.block⟩
theorem cut_nl (r x q : List UInt8) (f : Bool) (hc : Lib.cut r [10] = (x, q, f)) (w : World) (hl : r.length ≤ 1048576) (hm : MLN w) : Calls Tryd.prog 28 #[tx r, .string ⟨#[10]⟩] w fun e w' => e = .returned (.tuple #[tx x, tx q, .bool f]) ∧ Below w.heap.size w w' := by
  obtain ⟨m, hm⟩ := hm
  refine (Tryd.strings_Cut ⟨r.toArray⟩ ⟨#[10]⟩ m w (by show r.toArray.size < _; simp; omega) hm).mono ?_
  rintro e w' ⟨rfl, n, rfl⟩
  have e1 : Lib.cut (⟨r.toArray⟩ : ByteArray).data.toList (⟨#[10]⟩ : ByteArray).data.toList = (x, q, f) := hc
  rw [e1]
  exact ⟨rfl, below_drewN (Below.refl _ _) n⟩
theorem ansV_ex (R : Option PKV) : ∃ (p : PKV) (b : Bool), ansV R = .tuple #[.agg #[.int .i64 p.w0, .int .i64 p.h0, .int .i64 p.s, .bool p.fx, .bool p.fy, .bool p.ex, .int .i64 p.an, .int .i64 p.px, .int .i64 p.py], .bool b] ∧ (b = true → R = some p) ∧ (b = false → R = none) := by
  cases R with
  | none => exact ⟨⟨0, 0, 0, false, false, false, 0, 0, 0⟩, false, rfl, (by simp), (by simp)⟩
  | some p => exact ⟨p, true, rfl, (by simp), (by simp)⟩
theorem parse_ex (x : List UInt8) (hx : x.length ≤ 1048576) : ∃ (p : PKV) (b : Bool), (b = true → prs x = some p) ∧ (b = false → prs x = none) ∧ ∀ w, LT.TW w → MLN w → Calls Tryd.prog 9 #[tx x] w fun e w' => e = .returned (.tuple #[.agg #[.int .i64 p.w0, .int .i64 p.h0, .int .i64 p.s, .bool p.fx, .bool p.fy, .bool p.ex, .int .i64 p.an, .int .i64 p.px, .int .i64 p.py], .bool b]) ∧ Below w.heap.size w w' := by
  obtain ⟨p, b, e, h1, h2⟩ := ansV_ex (prs x)
  exact ⟨p, b, h1, h2, fun w ht hm => by rw [← e]; exact ParsePack_v x w hx ht hm⟩
theorem below_ownK {n : Nat} {a W w5 : World} {v : Value} {o : Obj} {lo hi : Nat} (h : Below n a W) (hg : (W.alloc o).grownBy w5 v.ownBlock) (hob : ∀ k, v.ownBlock = some k → lo ≤ k ∧ k < hi) (hlo : n ≤ lo) (hn : n ≤ a.heap.size) : Below n a w5 :=
  have h' : Below n a (W.alloc o) := h.alloc (Nat.le_trans hn h.size) o
  ⟨hg.os.trans h'.os, hg.tape.trans h'.tape, hg.output.trans h'.output, Nat.le_trans h'.size hg.size, fun k hk => (hg.block k (Nat.lt_of_lt_of_le (Nat.lt_of_lt_of_le hk hn) h'.size) (fun e => by have := hob k e.symm; omega)).trans (h'.block k hk)⟩
/-- what is answered -/
def PKR (lo : Nat) (w : World) (v : Value) (b : Bool) (l : List UInt8) : Prop := (∃ L, b = true ∧ pks l = some L ∧ GPO lo w v L) ∨ (b = false ∧ pks l = none ∧ v = .slice none 0 0)
set_option maxRecDepth 100000 in
theorem ParsePacks_v (l : List UInt8) (w : World) (hl : l.length ≤ 1048576) (hT : LT.TW w) (hm : MLN w) :
    Calls Tryd.prog 12 #[tx l] w fun e w' => (∃ v b, e = .returned (.tuple #[v, .bool b]) ∧ PKR w.heap.size w' v b l) ∧ Below w.heap.size w w' := by
  obtain ⟨ti, tz, ti1, ti2, ti3, ti4, ti5⟩ := pack_info
  have HT := Lib.hid hT
  have HM := Lib.hid hm
  clear hT hm
  go_enter Tryd.func12, Tryd.ntmps12
  go_wp2_with fail
  go_loopw [0, 4] (fun sv v wr => ∃ (r : List UInt8) (A : List Pk), sv = tx r ∧ r.length ≤ l.length ∧ A.length ≤ 7 ∧ PkAt l A (splitL 10 r) ∧ OWP w.heap.size A wr v ∧ Below w.heap.size w wr) (fun sv _ _ => slen sv)
  case atStart => exact ⟨l, [], rfl, Nat.le_refl _, by simp, PkAt.start l, ⟨Nat.le_refl _, World.ownsRow_nil _ _ _ _⟩, Below.refl _ _⟩
  case round =>
    obtain ⟨r, A, rfl, hrl, hA, hPk, ho, hB⟩ := hrel
    obtain ⟨a0, c0, rfl⟩ := ho.slice
    have HO := Lib.hid ho
    have HB := Lib.hid hB
    have HP := Lib.hid hPk
    have e1 := fun s t w => eqg_cc .neq s t r ⟨#[]⟩ w
    clear ho hB hPk
    by_cases hr : r = []
    · subst hr
      have e2 := neq_nil
      go_wp2
      exact bodyPost_ret (v := .tuple #[.slice a0 A.length c0, .bool true]) (by simp only [results, Tryd.results12]; go_simp) rfl ⟨⟨_, _, rfl, .inl ⟨A, rfl, HP.out.done hA, HO.out.go⟩⟩, HB.out⟩
    · have e2 := neq_no r hr
      have HRR := Lib.hid hr
      clear hr
      rcases cut_cases r with ⟨hno, hcut⟩ | ⟨x, q, hrq, hno, hcut⟩
      · have HN := Lib.hid hno
        have HCT := Lib.hid hcut
        obtain ⟨p, b, hp1, hp2, hpc⟩ := parse_ex r (by omega)
        have HPC := Lib.hid hpc
        have hlr : r.length ≤ 1048576 := by omega
        clear hno hcut hp1 hp2 hpc
        go_wp2_with fail
        with_reducible refine (cut_nl r r [] false HCT.out _ hlr (HM.out.keep HB.out)).mono ?_
        rintro e w1 ⟨rfl, hb⟩
        clear e1 e2
        replace HB := Lib.hid (bkeep2 HB.out hb)
        clear hb
        go_wp2_with fail
        with_reducible refine (HPC.out _ (HT.out.keep HB.out) (HM.out.keep HB.out)).mono ?_
        rintro e w2 ⟨rfl, hb⟩
        replace HB := Lib.hid (bkeep2 HB.out hb)
        clear hb
        go_wp2
        exact bodyPost_ret (v := .tuple #[.slice none 0 0, .bool false]) (by simp only [results, Tryd.results12]; go_simp) rfl ⟨⟨_, _, rfl, .inr ⟨rfl, (show PkAt l A [r] from splitL_miss HN.out ▸ HP.out).last HRR.out, rfl⟩⟩, balloc HB.out⟩
      · have hlx : x.length ≤ 1048576 := by have := congrArg List.length hrq; simp at this; omega
        have hlq : q.length + 1 ≤ r.length := by have := congrArg List.length hrq; simp at this; omega
        have HP2 := Lib.hid (show PkAt l A (x :: splitL 10 q) from by have := HP.out; rw [hrq, splitL_hit hno] at this; exact this)
        have HCT := Lib.hid hcut
        obtain ⟨p, b, hp1, hp2, hpc⟩ := parse_ex x hlx
        have HP1 := Lib.hid hp1
        have HPN := Lib.hid hp2
        have HPC := Lib.hid hpc
        have hlr : r.length ≤ 1048576 := by omega
        clear hno hcut hp1 hp2 hpc hrq
        go_wp2_with fail
        with_reducible refine (cut_nl r x q true HCT.out _ hlr (HM.out.keep HB.out)).mono ?_
        rintro e w1 ⟨rfl, hb⟩
        clear e1 e2
        replace HO := Lib.hid (HO.out.keep hb)
        replace HB := Lib.hid (bkeep2 HB.out hb)
        clear hb
        go_wp2_with fail
        with_reducible refine (HPC.out _ (HT.out.keep HB.out) (HM.out.keep HB.out)).mono ?_
        rintro e w2 ⟨rfl, hb⟩
        replace HO := Lib.hid (HO.out.keep hb)
        replace HB := Lib.hid (bkeep2 HB.out hb)
        clear hb
        cases b
        · go_wp2
          exact bodyPost_ret (v := .tuple #[.slice none 0 0, .bool false]) (by simp only [results, Tryd.results12]; go_simp) rfl ⟨⟨_, _, rfl, .inr ⟨rfl, HP2.out.none (splitL_ne 10 q) (HPN.out trivial), rfl⟩⟩, balloc HB.out⟩
        · have hp := HP1.out rfl
          by_cases h7 : A.length = 7
          · have h7b : ((A.length : Int) == 7) = true := by rw [beq_iff_eq]; omega
            have h7i : (A.length : Int) = 7 := by omega
            have HPF := Lib.hid (HP2.out.full (splitL_ne 10 q) hp h7)
            clear hp h7
            go_wp2
            exact bodyPost_ret (v := .tuple #[.slice none 0 0, .bool false]) (by simp only [results, Tryd.results12]; go_simp) rfl ⟨⟨_, _, rfl, .inr ⟨rfl, HPF.out, rfl⟩⟩, balloc HB.out⟩
          · have h7b : ((A.length : Int) == 7) = false := by rw [beq_eq_false_iff_ne]; omega
            have h7i : ¬ (A.length : Int) = 7 := by omega
            have HPS := Lib.hid (HP2.out.step (splitL_ne 10 q) hp)
            have hb2 : Below w2.heap.size w2 (w2.alloc (.cells #[.int .i64 p.w0, .int .i64 p.h0, .int .i64 p.s, .bool p.fx, .bool p.fy, .bool p.ex, .int .i64 p.an, .int .i64 p.px, .int .i64 p.py] 23 (0, 0))) := balloc (Below.refl _ _)
            have HO2 := Lib.hid (HO.out.keep hb2)
            have HB2 := Lib.hid (bkeep2 HB.out hb2)
            have hX := newS w2 (.cells #[.int .i64 p.w0, .int .i64 p.h0, .int .i64 p.s, .bool p.fx, .bool p.fy, .bool p.ex, .int .i64 p.an, .int .i64 p.px, .int .i64 p.py] 23 (0, 0))
            go_upto_region 5 with (fail)
            refine wp_PK (fun W => W.heap[w2.heap.size]? = some (.cells #[.int .i64 p.w0, .int .i64 p.h0, .int .i64 p.s, .bool p.fx, .bool p.fy, .bool p.ex, .int .i64 p.an, .int .i64 p.px, .int .i64 p.py] 23 (0, 0)) ∧ OWP w.heap.size A W (.slice a0 A.length c0) ∧ Below w.heap.size w W) ⟨hX, HO2.out, HB2.out⟩ ?_
            rintro W3 ⟨hx3, ho3, hB3⟩
            obtain ⟨p0, p1, p2, p3, p4, p5, p6, p7, p8⟩ := b9c hx3
            have hob := ho3.2.lt
            have hsz := hB3.size
            have HO3 := Lib.hid ho3
            have HB3 := Lib.hid hB3
            clear hx3 ho3 hB3 hX HO2 HB2 hb2 HO HB
            go_wp2_with (at_builtin; refine wpList_append_own _ rfl _ _ 28 rfl w.heap.size 23 ti tz 9 56 Tryd.underlying28 ti1 ti2 ti3 ti4 ti5 (by decide) _ _ _ rfl (HO3.out.2.alloc _) ⟨W3.heap.size, 0, none⟩ 1 1 (vals9 p.pk) rfl rfl (new9 _ p.pk _) (vals9_one _) (by simp only [maxLen]; omega) (by omega) (by simp; omega) ?_)
            intro v5 w5 how5 hgr5 _
            rw [pvals_snoc] at how5
            have HB5 := Lib.hid (below_ownK (n := w.heap.size) HB3.out hgr5 (lo := w.heap.size) (hi := W3.heap.size) (fun k hk => by have := hob k hk; omega) (Nat.le_refl _) (Nat.le_refl _))
            have HO5 := Lib.hid (show OWP w.heap.size (A ++ [p.pk]) w5 v5 from ⟨by have := HB5.out.size; omega, by rw [List.length_append]; exact how5⟩)
            clear how5 hgr5 hob p0 p1 p2 p3 p4 p5 p6 p7 p8
            go_wp2
            go_roundw
            case rel => exact ⟨q, A ++ [p.pk], rfl, by omega, by simp; omega, HPS.out, HO5.out, HB5.out⟩
            case measure => rw [slen_tx, slen_tx]; omega
theorem blk_ne {w : World} {b : Nat} {cs : Array Value} {T e : TypeId} (hh : w.heap[b]? = some (.cells cs T (0, 0))) (hne : T ≠ e) {base size n : Nat} {v : Value} {xs : List Value} (ho : w.ownsRow base e size v n xs) : some b ≠ v.ownBlock := by
  rcases ho.2 with ⟨rfl, _⟩ | ⟨g, cap, cur, rfl, _, hg, _⟩
  · simp [Value.ownBlock]
  · intro e'
    obtain rfl : b = g := by simpa [Value.ownBlock] using e'
    rw [hh] at hg
    simp at hg
    exact hne hg.2
theorem OWN.blk {base : Nat} {L : List (List UInt8)} {w : World} {v : Value} (h : OWN base L w v) (hn : L ≠ []) : ∃ (g cap : Nat) (cur : Array Value), v = .slice (some ⟨g, 0, none⟩) L.length cap ∧ w.heap[g]? = some (.cells cur 9 (0, 0)) ∧ (∀ (i : Nat) (x : List UInt8), L[i]? = some x → cur[i]? = some (tx x)) ∧ base ≤ g ∧ L.length ≤ cap := by
  obtain ⟨_, _, h⟩ := h
  have h0 : L.length ≠ 0 := fun e => hn (List.length_eq_zero_iff.1 e)
  rcases h with ⟨rfl, h⟩ | ⟨g, cap, cur, rfl, hb, hg, hc, hm, hs, ht⟩
  · omega
  · refine ⟨g, cap, cur, rfl, hg, fun j x hj => ?_, hb, hc⟩
    have e : (tvals L)[j]? = some (tx x) := by simp [tvals, hj]
    have hi := (List.getElem?_eq_some_iff.1 hj).1
    rw [← ht, List.getElem?_take, if_pos (by omega)] at e
    simpa using e
theorem drop_two {W : List (List UInt8)} {k : Nat} (h : k + 1 < W.length) : ∃ x, W[k]? = some x ∧ W.drop k = x :: W.drop (k + 1) ∧ W.drop (k + 1) ≠ [] := by
  have hk : k < W.length := by omega
  refine ⟨W[k], List.getElem?_eq_getElem hk, List.drop_eq_getElem_cons hk, fun e => ?_⟩
  have := congrArg List.length e
  simp at this; omega
theorem drop_one {W : List (List UInt8)} {k : Nat} (h : k + 1 = W.length) : ∃ x, W[k]? = some x ∧ W.drop k = [x] := by
  have hk : k < W.length := by omega
  refine ⟨W[k], List.getElem?_eq_getElem hk, ?_⟩
  rw [List.drop_eq_getElem_cons hk, List.drop_of_length_le (by omega)]
def PKE (lo : Nat) (l : List UInt8) (e : Ending) (w : World) : Prop := ∃ v b, e = .returned (.tuple #[v, .bool b]) ∧ (b = true → ∃ L, pks l = some L ∧ GPO lo w v L) ∧ (b = false → pks l = none)
theorem PKE.yes {lo : Nat} {l : List UInt8} {w : World} {v : Value} {L : List Pk} (h : pks l = some L) (hg : GPO lo w v L) : PKE lo l (.returned (.tuple #[v, .bool true])) w := ⟨v, true, rfl, fun _ => ⟨L, h, hg⟩, fun h => by cases h⟩
theorem PKE.no {lo : Nat} {l : List UInt8} {w : World} {v : Value} (h : pks l = none) : PKE lo l (.returned (.tuple #[v, .bool false])) w := ⟨v, false, rfl, (fun h => by cases h), fun _ => h⟩
set_option maxRecDepth 100000 in
theorem packsIn_v (l : List UInt8) (w : World) (hl : l.length ≤ 1048576) :
    Calls Tryd.prog 27 #[tx l] w fun e w' => PKE w.heap.size l e w' ∧ Below w.heap.size w w' := by
  obtain ⟨ti, tz, ti1, ti2, ti3, ti4, ti5⟩ := pack_info
  obtain ⟨W, hW⟩ : ∃ W, splitL 10 l = W := ⟨_, rfl⟩
  have hWn : W ≠ [] := by rw [← hW]; exact splitL_ne 10 l
  have hWl : 1 ≤ W.length := by rcases W with _ | _; exact absurd rfl hWn; simp
  have hWm : W.length ≤ 1048577 := by rw [← hW]; have := splitL_len 10 l; omega
  have HX := Lib.hid (show ∀ x ∈ W, x.length ≤ 1048576 from fun x hx => by rw [← hW] at hx; have := splitL_mem 10 l x hx; omega)
  have HWN := Lib.hid hWn
  have HS := Lib.hid (fun w => splitAt_x l 10 10 rfl hl w)
  have HP0 := Lib.hid (show PkAt l [] W from hW ▸ PkAt.start l)
  rw [hW] at HS
  clear hW hWn
  have HO := Lib.hid (show OWP w.heap.size [] (w.alloc (.cells #[] 23 (0, 0))) (.slice (some ⟨w.heap.size, 0, none⟩) 0 0) from ⟨by simp, World.ownsRow_lit (base := w.heap.size) (e := 23) (size := 9) w #[] 0 (Nat.le_refl _) (by decide) rfl⟩)
  have HB := Lib.hid (balloc (o := .cells #[] 23 (0, 0)) (Below.refl w.heap.size w))
  go_enter Tryd.func27, Tryd.ntmps27
  go_wp2_with fail
  with_reducible refine (HS.out _).mono ?_
  rintro e w1 ⟨⟨v, rfl, how⟩, hb⟩
  obtain ⟨gw, cw, CW, rfl, hsl, hcws, hgw, hcw⟩ := how.blk HWN.out
  have HCW := Lib.hid hcws
  have HSL := Lib.hid hsl
  clear how hsl HS hcws
  replace HO := Lib.hid (HO.out.keep hb)
  replace HB := Lib.hid (bkeep2 HB.out hb)
  clear hb
  go_wp2_with fail
  go_loopw [4, 6] (fun v iv wr => ∃ (k : Nat) (A : List Pk), iv = .int .i64 k ∧ k + 1 ≤ W.length ∧ A.length = k ∧ PkAt l A (W.drop k) ∧ OWP w.heap.size A wr v ∧ wr.heap[gw]? = some (.cells CW 9 (0, 0)) ∧ Below w.heap.size w wr) (fun _ iv _ => W.length - (intOf iv).toNat)
  case atStart => exact ⟨0, [], rfl, by omega, rfl, by simpa using HP0.out, HO.out, HSL.out, HB.out⟩
  case round =>
    obtain ⟨k, A, rfl, hk, hA, hPk, ho, hsl, hB⟩ := hrel
    have HA := Lib.hid hA
    have hAl : A.length ≤ 1048577 := by omega
    clear hA
    obtain ⟨a0, c0, rfl⟩ := ho.slice
    clear HO HB HSL HP0
    have HO := Lib.hid ho
    have HB := Lib.hid hB
    have HSL := Lib.hid hsl
    have wP : IntKind.i64.wrap ((k : Int) + 1) = (k : Int) + 1 := IntWalk.i64_in _ (by omega)
    by_cases hlt : k + 1 < W.length
    · have hd : decide ((k : Int) + 1 < (W.length : Int)) = true := decide_eq_true (by omega)
      obtain ⟨x, hx, hdr, hne⟩ := drop_two hlt
      have cx : wr.cell? ⟨gw, k, none⟩ = some (tx x) := (cellS hsl k).trans (HCW.out k x hx)
      have hkw : (k : Int) < (W.length : Int) := by omega
      have hxl := HX.out x (List.mem_of_getElem? hx)
      have HPK := Lib.hid (show PkAt l A (x :: W.drop (k + 1)) from hdr ▸ hPk)
      have HNE := Lib.hid hne
      clear ho hB hsl hPk hx hdr hne
      go_wp2_with fail
      with_reducible refine (parsePack_v x hxl _).mono ?_
      rintro e w2 ⟨⟨p, b, rfl, h1, h2⟩, hb⟩
      have H1 := Lib.hid h1
      have H2 := Lib.hid h2
      clear h1 h2 cx
      replace HSL := Lib.hid ((hb.block _ (Array.getElem?_eq_some_iff.1 HSL.out).1).trans HSL.out)
      replace HO := Lib.hid (HO.out.keep hb)
      replace HB := Lib.hid (bkeep2 HB.out hb)
      clear hb
      have hb2 : Below w2.heap.size w2 (w2.alloc (.cells #[.int .i64 p.w0, .int .i64 p.h0, .int .i64 p.s, .bool p.fx, .bool p.fy, .bool p.ex, .int .i64 p.an, .int .i64 p.px, .int .i64 p.py] 23 (0, 0))) := balloc (Below.refl _ _)
      have HO2 := Lib.hid (HO.out.keep hb2)
      have HSL2 := Lib.hid ((hb2.block gw (ltS HSL.out)).trans HSL.out)
      have HB2 := Lib.hid (bkeep2 HB.out hb2)
      have hX := newS w2 (.cells #[.int .i64 p.w0, .int .i64 p.h0, .int .i64 p.s, .bool p.fx, .bool p.fy, .bool p.ex, .int .i64 p.an, .int .i64 p.px, .int .i64 p.py] 23 (0, 0))
      go_upto_region 7 with (fail)
      refine wp_PK (fun W3 => W3.heap[w2.heap.size]? = some (.cells #[.int .i64 p.w0, .int .i64 p.h0, .int .i64 p.s, .bool p.fx, .bool p.fy, .bool p.ex, .int .i64 p.an, .int .i64 p.px, .int .i64 p.py] 23 (0, 0)) ∧ OWP w.heap.size A W3 (.slice a0 A.length c0) ∧ W3.heap[gw]? = some (.cells CW 9 (0, 0)) ∧ Below w.heap.size w W3) ⟨hX, HO2.out, HSL2.out, HB2.out⟩ ?_
      rintro W3 ⟨hx3, ho3, hsl3, hB3⟩
      obtain ⟨p0, p1, p2, p3, p4, p5, p6, p7, p8⟩ := b9c hx3
      have hob := ho3.2.lt
      have hsz := hB3.size
      have HO3 := Lib.hid ho3
      have HSL3 := Lib.hid hsl3
      have HB3 := Lib.hid hB3
      clear hx3 ho3 hB3 hX HO2 HB2 hb2 HO HB HSL HSL2 hsl3
      cases b
      · go_wp2
        exact bodyPost_ret (v := .tuple #[.slice none 0 0, .bool false]) (by simp only [results, Tryd.results27]; go_simp) rfl ⟨PKE.no (HPK.out.none HNE.out (by have := H2.out; simpa using this)), HB3.out⟩
      · have hp : prs x = some p := by have := H1.out; simpa using this
        have HPS := Lib.hid (HPK.out.step HNE.out hp)
        clear hp
        go_wp2_with (at_builtin; refine wpList_append_own _ rfl _ _ 28 rfl w.heap.size 23 ti tz 9 56 Tryd.underlying28 ti1 ti2 ti3 ti4 ti5 (by decide) _ _ _ rfl (HO3.out.2.alloc _) ⟨W3.heap.size, 0, none⟩ 1 1 (vals9 p.pk) rfl rfl (new9 _ p.pk _) (vals9_one _) (by simp only [maxLen]; omega) (by omega) (by simp; omega) ?_)
        intro v5 w5 how5 hgr5 _
        rw [pvals_snoc] at how5
        have HSL5 := Lib.hid ((hgr5.block gw (by have := ltS HSL3.out; simp; omega) (blk_ne HSL3.out (by decide) HO3.out.2)).trans ((Below.heap_alloc _ _ gw (ltS HSL3.out)).trans HSL3.out))
        have HB5 := Lib.hid (below_ownK (n := w.heap.size) HB3.out hgr5 (lo := w.heap.size) (hi := W3.heap.size) (fun k hk => by have := hob k hk; omega) (Nat.le_refl _) (Nat.le_refl _))
        have HO5 := Lib.hid (show OWP w.heap.size (A ++ [p.pk]) w5 v5 from ⟨by have := HB5.out.size; omega, by rw [List.length_append]; exact how5⟩)
        clear how5 hgr5 hob p0 p1 p2 p3 p4 p5 p6 p7 p8
        go_wp2
        go_roundw
        case rel => exact ⟨k + 1, A ++ [p.pk], by go_num, by omega, by simp [HA.out], HPS.out, HO5.out, HSL5.out, HB5.out⟩
        case measure => simp [intOf]; omega
    · have hd : decide ((k : Int) + 1 < (W.length : Int)) = false := decide_eq_false (by omega)
      obtain ⟨x, hx, hdr⟩ := drop_one (W := W) (k := k) (by omega)
      have hwk : (W.length : Int) = (k : Int) + 1 := by omega
      have cx : wr.cell? ⟨gw, k, none⟩ = some (tx x) := (cellS hsl k).trans (HCW.out k x hx)
      have HPK := Lib.hid (show PkAt l A [x] from hdr ▸ hPk)
      clear ho hB hsl hPk hx hdr
      have e1 := fun s t w => eqg_cc .eql s t x ⟨#[]⟩ w
      have wM : IntKind.i64.wrap ((W.length : Int) - 1) = (k : Int) := (IntWalk.i64_in _ (by omega)).trans (by omega)
      by_cases hx0 : x = []
      · subst hx0
        have e2 := eql_nil
        by_cases h7 : A.length ≤ 7
        · have hd7 : decide ((A.length : Int) ≤ 7) = true := decide_eq_true (by omega)
          go_wp2
          exact bodyPost_ret (v := .tuple #[.slice a0 A.length c0, .bool true]) (by simp only [results, Tryd.results27]; go_simp) rfl ⟨PKE.yes (HPK.out.done h7) HO.out.go, HB.out⟩
        · have hd7 : decide ((A.length : Int) ≤ 7) = false := decide_eq_false (by omega)
          go_wp2
          exact bodyPost_ret (v := .tuple #[.slice a0 A.length c0, .bool false]) (by simp only [results, Tryd.results27]; go_simp) rfl ⟨PKE.no (HPK.out.over h7), HB.out⟩
      · have e2 := eql_no x hx0
        go_wp2
        exact bodyPost_ret (v := .tuple #[.slice a0 A.length c0, .bool false]) (by simp only [results, Tryd.results27]; go_simp) rfl ⟨PKE.no (HPK.out.last hx0), HB.out⟩
set_option maxRecDepth 100000 in
theorem sParsePacks_v (l : List UInt8) (w : World) (hl : l.length ≤ 1048576) :
    Calls Tryd.prog 11 #[tx l] w fun e w' => (∃ v b, e = .returned (.tuple #[v, .bool b]) ∧ PKR w.heap.size w' v b l) ∧ Below w.heap.size w w' := by
  go_enter Tryd.func11, Tryd.ntmps11
  go_wp2_with fail
  with_reducible refine (packsIn_v l _ hl).mono ?_
  rintro e w1 ⟨⟨v, b, rfl, h1, h2⟩, hb⟩
  have H1 := Lib.hid h1
  have H2 := Lib.hid h2
  clear h1 h2
  cases b
  · go_wp2
    exact bodyPost_ret (v := .tuple #[.slice none 0 0, .bool false]) (by simp only [results, Tryd.results11]; go_simp) rfl ⟨⟨_, _, rfl, .inr ⟨rfl, by have := H2.out; simpa using this, rfl⟩⟩, hb⟩
  · obtain ⟨L, hL, hg⟩ : ∃ L, pks l = some L ∧ GPO w.heap.size w1 v L := by have := H1.out; simpa using this
    clear H1 H2
    go_wp2
    exact bodyPost_ret (v := .tuple #[v, .bool true]) (by simp only [results, Tryd.results11]; go_simp) rfl ⟨⟨_, _, rfl, .inl ⟨L, rfl, hL, hg⟩⟩, hb⟩
end Go.Proofs.YtjfdmdmlgdgchaaDoor
end
section
namespace Go.Proofs.YtjfdmdmlgdgchaaDoor
open Go.ChangeShapes Go.WideShapes Go.ChangeAt Go.RowKit
namespace LT
noncomputable def world5xs (os : Os) : World := World.laidAll Tryd.prog os Rows.fnExactParsePacksRow.laid
theorem met5xs (os : Os) (args : Array Value) : laidMetH Tryd.prog Rows.fnExactParsePacksRow.laid ((world5xs os).forCall (fun _ _ => 0) ⟨#[], args, []⟩).memory := by
  rw [MakeChecks.laidMetH_plain _ _ _ (by kernel_rfl)]
  exact laidMet_laidAll _ (by kernel_rfl) (by kernel_rfl)
theorem opens5xs {W : World} (h : laidMetH Tryd.prog Rows.fnExactParsePacksRow.laid W) : TW W := by
  rw [MakeChecks.laidMetH_plain _ _ _ (by kernel_rfl)] at h
  exact opens3 h
end LT
end Go.Proofs.YtjfdmdmlgdgchaaDoor
end
section
namespace Go.Proofs.YtjfdmdmlgdgchaaDoor
open Go.ChangeShapes Go.WideShapes Go.ChangeAt Go.RowKit
namespace LT
noncomputable def world5 (os : Os) : World := World.laidAll Tryd.prog os Rows.fnExactParsePackRow.laid
theorem met5 (os : Os) (args : Array Value) : laidMetH Tryd.prog Rows.fnExactParsePackRow.laid ((world5 os).forCall (fun _ _ => 0) ⟨#[], args, []⟩).memory := by
  rw [MakeChecks.laidMetH_plain _ _ _ (by kernel_rfl)]
  exact laidMet_laidAll _ (by kernel_rfl) (by kernel_rfl)
theorem opens5 {W : World} (h : laidMetH Tryd.prog Rows.fnExactParsePackRow.laid W) : TW W := by
  rw [MakeChecks.laidMetH_plain _ _ _ (by kernel_rfl)] at h
  exact opens3 h
end LT
end Go.Proofs.YtjfdmdmlgdgchaaDoor
end
section
namespace Go.Proofs.YtjfdmdmlgdgchaaDoor
open Go
/-! A card's contract may use the world's shape: what the library's own variables hold. -/
theorem handed_shaped_laid {H : Type} {enc : TypeId × Value → H} {a : Assume} {C : Checked} {os : Os} {f : FuncId} {fn : Func} {s : ChangeSpec} {conds : List PathCond} {apart fresh handsOn again : Bool} {X : World → Array Value → Prop}
    (hX : ∀ (w w' : World) (args : Array Value), w.heap = w'.heap → X w args → X w' args)
    (own : ownKnob C.prog.godebug = none) (started : os.Started) (noInit : C.prog.inits.idxOf? f = none) (hfn : C.prog.funcs[f]? = some fn)
    (witness : ∃ (w : World) (tape : Tape) (i : Input), w.os = os ∧ (w.forCall tape i).Shaped C.prog ∧ i.vars = [] ∧ Input.okWide C.prog (w.forCall tape i) .any w.heap.size f i ∧
      ((s.pre enc C.prog fn conds apart (w.forCall tape i).memory i.args ∧ X (w.forCall tape i).memory i.args) ∧ sizedMet enc C.prog fn (OpenSpec.ofChange s) apart (w.forCall tape i).memory i.args) ∧ a.holds C.prog (lone (Frame.enter C.prog f i.args .normal) [] (w.forCall tape i)))
    (contract : ∀ (W : World) (base : Nat) (args : Array Value) (ds gs : List (DataW H)) (before : List MemPlace),
      (∀ (j : Nat) t v, fn.params[j]? = some t → args[j]? = some v → Value.okWide C.prog W .any base t v) →
      DataW.Whole enc C.prog fn.params.toList s.vars apart W args.toList ds gs before →
      X W args → W.ShapedOpen C.prog →
      Calls C.prog f args W fun e W' => ∃ v, e = .returned v ∧ s.post enc C.prog fn apart fresh handsOn again W args v W') :
    ReturnsInHanded a C os f .any (fun w args => (s.pre enc C.prog fn conds apart w args ∧ X w args) ∧ sizedMet enc C.prog fn (OpenSpec.ofChange s) apart w args) (s.post enc C.prog fn apart fresh handsOn again) := by
  refine returnsInHanded_of_calls own started noInit witness fun w tape i _ hsh _ hok hpre _ => ?_
  obtain ⟨_, _, _, fn', hfn', _, _, _, _, hval⟩ := hok
  obtain rfl : fn' = fn := Option.some.inj (hfn'.symm.trans hfn)
  obtain ⟨⟨⟨ds, gs, before, hw, _⟩, hx⟩, _⟩ := hpre
  refine (contract (w.forCall tape i) w.heap.size i.args ds gs before hval (DataW.Whole.of_heap (w' := w.forCall tape i) (by rfl) hw) (hX _ _ _ (by rfl) hx) hsh).mono fun e W' ⟨v, he, hp⟩ => ?_
  subst he
  exact ChangeSpec.post_blind hp
end Go.Proofs.YtjfdmdmlgdgchaaDoor
end
