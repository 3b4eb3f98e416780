import Derived.Test.YtjdjahckdgbkbacQ04
import Derived.RangeFuncNested
import Derived.RangeFuncBound
import Derived.RangeFuncCalls
import Derived.RangeFuncLeaves
import Derived.Shelf.Abstract
import Derived.Shelf.RegionOpen
import Derived.WalkKit
import Derived.OwnWalkIn
import Derived.TacticsInMore
import Derived.LoopNIn
import Derived.LoopIn
section
namespace Go.Proofs.Ytjdjahckdgbkbac
open Go.RowKit
set_option linter.unusedVariables false
set_option maxHeartbeats 1000000
attribute [local go_sem 5000] run_mx run_mn
set_option maxRecDepth 100000 in
theorem request_w (A : Option Addr) (c : Nat) (L : List Pk) (w : World) (h : PV w A L) (hok : ∀ p ∈ L, p.big) (h7 : L.length ≤ 10) :
    Calls Try.prog 38 #[.slice A L.length c] w fun e w' => e = .returned (.tuple #[.int .i64 (reqM L).1, .int .i64 (reqM L).2]) ∧ Below w.heap.size w w' := by
  have HOK := Lib.hid hok
  clear hok
  go_enter Try.func38, Try.ntmps38
  go_wp2_with fail
  go_loopw [4, 5, 6] (fun a b i wr => ∃ k : Nat, k ≤ L.length ∧ i = .int .i64 ((k : Int) - 1) ∧ a = .int .i64 (reqM (L.drop k)).1 ∧ b = .int .i64 (reqM (L.drop k)).2 ∧ Below w.heap.size w wr) (fun _ _ i _ => (intOf i + 1).toNat)
  case atStart => exact ⟨L.length, Nat.le_refl _, rfl, by rw [List.drop_length]; rfl, by rw [List.drop_length]; rfl, Below.refl _ _⟩
  case round =>
    obtain ⟨k, hk, rfl, rfl, rfl, hB⟩ := hrel
    rcases k with _ | j
    · have hd : decide (((0 : Nat) : Int) - 1 ≥ 0) = false := by simp
      have HBB := Lib.hid hB
      clear hB
      rw [List.drop_zero]
      go_wp2
      exact bodyPost_ret (v := .tuple #[.int .i64 (reqM L).1, .int .i64 (reqM L).2]) (by simp only [results, Try.results38]; go_simp) rfl ⟨rfl, HBB.out⟩
    · have e1 : ((j + 1 : Nat) : Int) - 1 = (j : Int) := by omega
      rw [e1]
      have hlt : j < L.length := by omega
      have hd : decide ((j : Int) ≥ 0) = true := by simp
      have hd2 : decide ((0 : Int) ≤ (j : Int)) = true := by simp
      obtain ⟨b, off, rfl, hb, hps⟩ := (h.keep hB).cells (by omega)
      have hget : L[j]? = some L[j] := List.getElem?_eq_getElem hlt
      obtain ⟨c0, c1, c2, c3, c4, c5, c6, c7, c8⟩ := hps j _ hget
      generalize hx : L[j] = p at *
      have hpk : p.big := HOK.out p (List.mem_of_getElem? hget)
      have hdrop := drop_cons hget
      obtain ⟨q1, q2, q3, q4⟩ := reqM_bdW (L := L.drop (j + 1)) (fun q hq => HOK.out q (List.mem_of_mem_drop hq))
      rw [List.length_drop] at q2 q4
      have n1 := Pk.need_bdW hpk false
      have n2 := Pk.need_bdW hpk true
      obtain ⟨U, hU⟩ : ∃ U, (reqM (L.drop (j + 1))).1 = U := ⟨_, rfl⟩
      obtain ⟨V, hV⟩ : ∃ V, (reqM (L.drop (j + 1))).2 = V := ⟨_, rfl⟩
      rw [hU] at q1 q2
      rw [hV] at q3 q4
      rw [hU, hV]
      have HU := Lib.hid hU
      have HV := Lib.hid hV
      have HD := Lib.hid hdrop
      have HPS := Lib.hid hps
      have HG := Lib.hid hget
      have HBB := Lib.hid hB
      clear hU hV hdrop hx hps hget hB e1
      go_wp2_with fail
      refine (outer_w p _ hpk).mono ?_
      rintro e w1 ⟨rfl, hb1⟩
      have hc9 := (HPS.out j p HG.out).keep (hb1.block b hb)
      obtain ⟨d0, d1, d2, d3, d4, d5, d6, d7, d8⟩ := hc9
      replace HBB := Lib.hid (HBB.out.trans (hb1.mono HBB.out.size))
      clear hb1 c0 c1 c2 c3 c4 c5 c6 c7 c8
      have hjs : IntKind.i64.wrap ((j : Int) - 1) = (j : Int) - 1 := IntWalk.i64_in _ (by omega)
      cases hdn : p.down
      · go_wp2_with fail
        refine (upright_p p _).mono ?_
        rintro e w2 ⟨rfl, rfl⟩
        rw [hdn]
        go_wp2
        go_roundw
        case rel => exact ⟨j, by omega, by go_num, by rw [HD.out]; simp [reqM, hdn, HU.out, HV.out], by rw [HD.out]; simp [reqM, hdn, HU.out, HV.out], HBB.out⟩
        case measure => simp [intOf]
      · go_wp2_with fail
        refine (upright_p p _).mono ?_
        rintro e w2 ⟨rfl, rfl⟩
        rw [hdn]
        go_wp2
        go_roundw
        case rel => exact ⟨j, by omega, by go_num, by rw [HD.out]; simp [reqM, hdn, HU.out, HV.out], by rw [HD.out]; simp [reqM, hdn, HU.out, HV.out], HBB.out⟩
        case measure => simp [intOf]
theorem request_v (A : Option Addr) (c : Nat) (L : List Pk) (w : World) (h : PV w A L) (hL : vpsB L = true) :
    Calls Try.prog 38 #[.slice A L.length c] w fun e w' => e = .returned (.tuple #[.int .i64 (reqM L).1, .int .i64 (reqM L).2]) ∧ Below w.heap.size w w' := by
  obtain ⟨hok, h7⟩ := vpsB_iff.1 hL
  exact request_w A c L w h (fun p hp => Pk.ok_big (hok p hp)) (by omega)
end Go.Proofs.Ytjdjahckdgbkbac
end
section
namespace Go.Proofs.Ytjdjahckdgbkbac
open Go.RowKit
set_option linter.unusedVariables false
set_option maxHeartbeats 1000000
attribute [local go_sem 5000] run_mx run_mn
theorem pvals_get : ∀ {M : List Pk} {i : Nat} {r : Pk}, M[i]? = some r → ∀ j, j < 9 → (pvals M)[i * 9 + j]? = (vals9 r)[j]?
  | [], i, r, h, _, _ => by simp at h
  | q :: t, 0, r, h, j, hj => by
    simp at h; subst h
    show (vals9 q ++ pvals t)[0 * 9 + j]? = _
    rw [List.getElem?_append_left (by simp [vals9]; omega)]; simp
  | q :: t, i + 1, r, h, j, hj => by
    show (vals9 q ++ pvals t)[(i + 1) * 9 + j]? = _
    rw [List.getElem?_append_right (by simp [vals9]; omega)]
    have := pvals_get (M := t) (i := i) (r := r) (by simpa using h) j hj
    rw [← this]; congr 1; simp [vals9]; omega
theorem PV.own {w : World} {base n : Nat} {v : Value} {L : List Pk} {T : TypeId} (h : w.ownsRow base T 9 v n (pvals L)) (hn : n = L.length) : ∃ A c, v = .slice A L.length c ∧ L.length ≤ c ∧ PV w A L ∧ (∀ a, A = some a → base ≤ a.block) := by
  subst hn
  have hl := h.lt
  have hc := fun g hg => h.cells (g := g) hg
  rcases h.2 with ⟨rfl, h0⟩ | ⟨g, cap, cur, rfl, hb, _, hcap, _⟩
  · exact ⟨none, 0, by rw [h0], by omega, ⟨fun h => absurd h (by omega)⟩, fun a e => by cases e⟩
  · refine ⟨_, cap, rfl, hcap, ⟨fun _ => ⟨g, 0, rfl, (hl g rfl).2, fun i r hr => ?_⟩⟩, fun a e => by cases e; exact hb⟩
    have e : ∀ j, j < 9 → ∀ u, (vals9 r)[j]? = some u → w.cell? ⟨g, 0 + i * 9 + j, none⟩ = some u := fun j hj u hu => by
      have h1 := hc g rfl (i * 9 + j) u ((pvals_get hr j hj).trans hu)
      have hadd : (⟨g, 0, none⟩ : Addr).add (i * 9 + j) = ⟨g, 0 + i * 9 + j, none⟩ := by unfold Addr.add; split <;> simp_all
      rwa [hadd] at h1
    exact ⟨e 0 (by omega) _ rfl, e 1 (by omega) _ rfl, e 2 (by omega) _ rfl, e 3 (by omega) _ rfl, e 4 (by omega) _ rfl, e 5 (by omega) _ rfl, e 6 (by omega) _ rfl, e 7 (by omega) _ rfl, e 8 (by omega) _ rfl⟩
theorem own_blw {w w' : World} {base : Nat} {e : TypeId} {size : Nat} {v : Value} {n : Nat} {xs : List Value} (h : w.ownsRow base e size v n xs) (hb : Below w.heap.size w w') : w'.ownsRow base e size v n xs :=
  h.kept (row := none) ⟨hb.os, hb.tape, hb.output, hb.size, fun k hk _ => hb.block k hk⟩ (by
    cases hv : v.ownBlock with
    | none => exact .inl rfl
    | some g => exact .inr (fun e => by cases e))
end Go.Proofs.Ytjdjahckdgbkbac
end
section
namespace Go.Proofs.Ytjdjahckdgbkbac
open Go.RowKit
set_option linter.unusedVariables false
set_option maxHeartbeats 1000000
set_option maxRecDepth 100000 in
theorem DrawPackRequest_any (A : Option Addr) (n c : Nat) (w : World) (h : Bts w A n) (hn : n ≤ c) (hc : c ≤ maxLen) :
    Calls Try.prog 12 #[.slice A n c] w fun e w' => (∃ (A' : Option Addr) (c' : Nat) (L : List Pk), e = .returned (.slice A' L.length c') ∧ L.length ≤ 8 ∧ L.length ≤ c' ∧ PV w' A' L) ∧ Below w.heap.size w w' := by
  go_enter Try.func12, Try.ntmps12
  go_wp2_with fail
  with_reducible refine (newReader_any A n c _ h hn hc).mono ?_
  rintro e w1 ⟨n', rfl, hr1, hc1⟩
  go_wp2_with fail
  with_reducible refine (somePacks_any _ hr1 (by omega)).mono ?_
  rintro e w2 ⟨⟨v, L, rfl, ho, hL⟩, hr2, hc2⟩
  obtain ⟨A', c', rfl, hcap, hpv, _⟩ := PV.own ho rfl
  have HP := Lib.hid hpv
  have HB := Lib.hid (Chg.below ((hc1.mono (by simp)).trans hc2) (Nat.le_refl _) (by simp))
  clear ho hr2 hc2 hr1 hc1 hpv
  go_wp2
  go_ret
  exact ⟨⟨A', c', L, rfl, hL, hcap, HP.out⟩, HB.out⟩
theorem PV.chg {w w' : World} {A : Option Addr} {L : List Pk} {rb : Nat} (h : PV w A L) (hc : Chg [rb] w w') (hne : ∀ a, A = some a → a.block ≠ rb) : PV w' A L :=
  ⟨fun h0 => let ⟨b, off, e, hl, hp⟩ := h.cells h0; ⟨b, off, e, Nat.lt_of_lt_of_le hl hc.size, fun i p hi => (hp i p hi).keep (hc.block b hl (by simp; exact hne _ e))⟩⟩
theorem own_in9 {w : World} {base n : Nat} {v : Value} {M : List Pk} {T : TypeId} (h : w.ownsRow base T 9 v n (pvals M)) (hn : n = M.length) :
    (v = .slice none 0 0 ∧ M = []) ∨ ∃ g cap, ∃ cs : Array Value, v = .slice (some ⟨g, 0, none⟩) n cap ∧ base ≤ g ∧ n ≤ cap ∧ w.heap[g]? = some (.cells cs T (0, 0)) ∧ cs.size = cap * 9 ∧ ∀ i r, M[i]? = some r → In9 cs (i * 9) r := by
  rcases h.2 with ⟨rfl, h0⟩ | ⟨g, cap, cur, rfl, hb, hg, hc, _, hs, ht⟩
  · exact .inl ⟨rfl, List.length_eq_zero_iff.1 (by omega)⟩
  · refine .inr ⟨g, cap, cur, rfl, hb, hc, hg, hs, fun i r hr j hj => ?_⟩
    have e : (vals r)[j]? = (vals9 r)[j]? := rfl
    rw [e, ← pvals_get hr j hj, ← ht, List.getElem?_take]
    have : i < M.length := (List.getElem?_eq_some_iff.1 hr).1
    rw [if_pos (by omega)]; simp
theorem pv_in9 {w : World} {g : Nat} {cs : Array Value} {T : TypeId} {L : List Pk} (hh : w.heap[g]? = some (.cells cs T (0, 0))) (hc : ∀ i r, L[i]? = some r → In9 cs (i * 9) r) : PV w (some ⟨g, 0, none⟩) L :=
  ⟨fun _ => ⟨g, 0, rfl, (Array.getElem?_eq_some_iff.1 hh).1, fun i p hp => by have := (hc i p hp).cells hh; simpa using this⟩⟩
/-- the first item expands -/
theorem in9_first {cs : Array Value} {p : Pk} {t : List Pk} (hs : 9 ≤ cs.size) (hc : ∀ i r, (p :: t)[i]? = some r → In9 cs (i * 9) r) : ∀ i r, ({ p with ex := true } :: t)[i]? = some r → In9 (cs.setIfInBounds 5 (.bool true)) (i * 9) r := by
  intro i r hr j hj
  rw [Array.getElem?_setIfInBounds]
  cases i with
  | zero =>
    simp at hr
    subst hr
    have h0 := hc 0 p rfl j hj
    by_cases e : j = 5
    · subst e; rw [if_pos (by omega), if_pos (by omega)]; rfl
    · rw [if_neg (by omega), h0]
      have : j = 0 ∨ j = 1 ∨ j = 2 ∨ j = 3 ∨ j = 4 ∨ j = 6 ∨ j = 7 ∨ j = 8 := by omega
      rcases this with rfl | rfl | rfl | rfl | rfl | rfl | rfl | rfl <;> rfl
  | succ i =>
    rw [if_neg (by omega)]
    exact hc (i + 1) r (by simpa using hr) j hj
set_option maxRecDepth 100000 in
theorem DrawExpandShare_any (A : Option Addr) (n c : Nat) (w : World) (h : Bts w A n) (hn : n ≤ c) (hc : c ≤ maxLen) :
    Calls Try.prog 15 #[.slice A n c] w fun e w' => (∃ (A' : Option Addr) (c' : Nat) (L : List Pk) (r : Int) (d : Bool), e = .returned (.tuple #[.slice A' L.length c', .int .i64 r, .bool d]) ∧ L.length ≤ 8 ∧ L.length ≤ c' ∧ PV w' A' L) ∧ Below w.heap.size w w' := by
  go_enter Try.func15, Try.ntmps15
  go_wp2_with fail
  with_reducible refine (newReader_any A n c _ h hn hc).mono ?_
  rintro e w1 ⟨n', rfl, hr1, hc1⟩
  go_wp2_with fail
  with_reducible refine (somePacks_any _ hr1 (by omega)).mono ?_
  rintro e w2 ⟨⟨v, L, rfl, ho, hL⟩, hr2, hc2⟩
  have hlt1 := hr1.lt
  have HC := Lib.hid ((hc1.mono (S' := [w.heap.size]) (by simp)).trans hc2)
  have HO := Lib.hid ho
  clear ho hr1 hc1 hc2
  go_wp2_with fail
  with_reducible refine (pick_any _ _ hr2 (by omega)).mono ?_
  rintro e w3 ⟨⟨z, rfl, -⟩, hr3, hc3⟩
  replace HO := Lib.hid (own_chg HO.out hc3 hlt1)
  replace HC := Lib.hid (HC.out.trans hc3)
  clear hr2 hc3
  rcases own_in9 HO.out rfl with ⟨rfl, rfl⟩ | ⟨g, cap, cs, rfl, hg, hcap, hh, hs, hin⟩
  · clear HO
    go_wp2_with fail
    with_reducible refine (one_lit_in (-1) 401 _ hr3 (by omega) (by simp) (by omega) (by omega) (by simp [isIn])).mono ?_
    rintro e w4 ⟨⟨z1, rfl, z1a, z1b⟩, hr4, hc4⟩
    have HB := Lib.hid (Chg.below (HC.out.trans hc4) (Nat.le_refl _) (by simp))
    clear hr3 hr4 hc4 HC
    go_wp2
    exact bodyPost_ret (v := .tuple #[.slice none 0 0, .int .i64 z1, .bool (z == 0)]) (by simp only [results, Try.results15]; go_simp) rfl ⟨⟨none, 0, [], z1, _, rfl, by simp, by simp, ⟨fun h => absurd h (by simp)⟩⟩, HB.out⟩
  · rcases L with _ | ⟨p, t⟩
    · have hpv := pv_in9 hh hin
      have hgr : ∀ a : Addr, (some (⟨g, 0, none⟩ : Addr)) = some a → a.block ≠ w.heap.size := fun a e => by cases e; simp; omega
      have HP := Lib.hid hpv
      clear HO hh hs hin hpv
      go_wp2_with fail
      with_reducible refine (one_lit_in (-1) 401 _ hr3 (by omega) (by simp) (by omega) (by omega) (by simp [isIn])).mono ?_
      rintro e w4 ⟨⟨z1, rfl, z1a, z1b⟩, hr4, hc4⟩
      replace HP := Lib.hid (HP.out.chg hc4 hgr)
      have HB := Lib.hid (Chg.below (HC.out.trans hc4) (Nat.le_refl _) (by simp))
      clear hr3 hr4 hc4 HC
      go_wp2
      exact bodyPost_ret (v := .tuple #[.slice (some ⟨g, 0, none⟩) 0 cap, .int .i64 z1, .bool (z == 0)]) (by simp only [results, Try.results15]; go_simp) rfl ⟨⟨_, _, [], z1, _, rfl, by simp, by simp, HP.out⟩, HB.out⟩
    · have hd : decide (((p :: t).length : Int) > 0) = true := by simp
      have hgr : ∀ a : Addr, (some (⟨g, 0, none⟩ : Addr)) = some a → a.block ≠ w.heap.size := fun a e => by cases e; simp; omega
      have hgn : g ≠ w.heap.size := by omega
      have HI := Lib.hid hin
      have HS := Lib.hid hs
      have HH := Lib.hid hh
      have hs9 : 9 ≤ cs.size := by rw [hs]; simp at hcap; omega
      have hlen : (p :: t).length ≤ 8 := hL
      obtain ⟨len, hle⟩ : ∃ len, (p :: t).length = len := ⟨_, rfl⟩
      have hlen0 : 0 < len := by rw [← hle]; simp
      rw [hle] at hd hlen hcap
      rw [hle]
      have HLE := Lib.hid hle
      clear HO hh hs hin hL hle
      go_wp2_with fail
      with_reducible refine (pick_any _ _ hr3 (by omega)).mono ?_
      rintro e w4 ⟨⟨z8, rfl, -⟩, hr4, hc4⟩
      replace HH := Lib.hid ((hc4.block g (lt_of_heap HH.out) (by simp; omega)).trans HH.out)
      replace HC := Lib.hid (HC.out.trans hc4)
      clear hr3 hc4
      by_cases hz8 : z8 > 0
      · have d8 : decide (z8 > 0) = true := by simpa using hz8
        have d8' : decide (0 < z8) = true := by simpa using hz8
        have HZ8 := Lib.hid hz8
        clear hz8
        obtain ⟨y5, e5⟩ := there HH.out (i := 5) (by omega)
        have f5 := frozenH HH.out 5
        have e2 : w4.cell? ⟨g, 2, none⟩ = some (.int .i64 p.s) := (cellH HH.out 2).trans (by have := HI.out 0 p rfl 2 (by omega); simpa [vals] using this)
        have HH2 := Lib.hid (pput1 (i := 5) HH.out (.bool true))
        replace HC := Lib.hid (HC.out.setCell (p := ⟨g, 5, none⟩) (.inr (by simp; omega)) (.bool true))
        have hr5 := hr4.setCell (p := ⟨g, 5, none⟩) (by simp; omega) (by simp; omega) (.bool true)
        have HR5 := Lib.hid hr5
        clear hr5
        go_wp2_with fail
        refine (upright_p p _).mono ?_
        rintro e w5 ⟨rfl, rfl⟩
        obtain ⟨W5, hW5⟩ : ∃ W, w4.setCell ⟨g, 5, none⟩ (.bool true) = W := ⟨_, rfl⟩
        rw [hW5] at HH2 HC HR5 ⊢
        clear e2 e5 f5 hW5
        go_wp2_with fail
        with_reducible refine (one_lit_in (-1) 401 _ HR5.out (by omega) (by simp) (by omega) (by omega) (by simp [isIn])).mono ?_
        rintro e w6 ⟨⟨z1, rfl, z1a, z1b⟩, hr6, hc6⟩
        have HP := Lib.hid ((pv_in9 HH2.out (in9_first hs9 HI.out)).chg hc6 hgr)
        have HB := Lib.hid (Chg.below (HC.out.trans hc6) (Nat.le_refl _) (by simp))
        clear hr4 HR5 hr6 hc6 HC
        go_wp2
        exact bodyPost_ret (v := .tuple #[.slice (some ⟨g, 0, none⟩) len cap, .int .i64 z1, .bool p.down]) (by simp only [results, Try.results15]; go_simp) rfl ⟨⟨_, _, { p with ex := true } :: t, z1, _, by rw [← HLE.out]; rfl, by have := HLE.out; simp at this ⊢; omega, by have := HLE.out; simp at this ⊢; omega, HP.out⟩, HB.out⟩
      · have d8 : decide (z8 > 0) = false := by simpa using hz8
        have d8' : decide (0 < z8) = false := by simpa using hz8
        have HZ8 := Lib.hid hz8
        clear hz8
        have HP := Lib.hid (pv_in9 HH.out HI.out)
        go_wp2_with fail
        with_reducible refine (one_lit_in (-1) 401 _ hr4 (by omega) (by simp) (by omega) (by omega) (by simp [isIn])).mono ?_
        rintro e w6 ⟨⟨z1, rfl, z1a, z1b⟩, hr6, hc6⟩
        replace HP := Lib.hid (HP.out.chg hc6 hgr)
        have HB := Lib.hid (Chg.below (HC.out.trans hc6) (Nat.le_refl _) (by simp))
        clear hr4 hr6 hc6 HC
        go_wp2
        exact bodyPost_ret (v := .tuple #[.slice (some ⟨g, 0, none⟩) len cap, .int .i64 z1, .bool (z == 0)]) (by simp only [results, Try.results15]; go_simp) rfl ⟨⟨_, _, p :: t, z1, _, by rw [← HLE.out], by have := HLE.out; omega, by have := HLE.out; omega, HP.out⟩, HB.out⟩
end Go.Proofs.Ytjdjahckdgbkbac
end
section
namespace Go.Proofs.Ytjdjahckdgbkbac
open Go.RowKit
set_option linter.unusedVariables false
set_option maxHeartbeats 4000000
attribute [local go_sem 5000] run_mx run_mn
attribute [local go_sem] Oper.semAt_some
/-- what comes: an index, and a valid item -/
structure BkE where
  i : Int
  p : Pk
  ok : p.big
def encB (x : BkE) : Array Value := #[.int .i64 x.i, .agg #[.int .i64 x.p.w, .int .i64 x.p.h, .int .i64 x.p.s, .bool x.p.fx, .bool x.p.fy, .bool x.p.ex, .int .i64 x.p.an, .int .i64 x.p.px, .int .i64 x.p.py]]
/-- what a round must keep -/
def KpB (n0 Bs : Nat) (W W' : World) : Prop := Below n0 W W' ∧ W'.heap[Bs]? = W.heap[Bs]?
theorem KpB.cell {n0 Bs : Nat} {W W' : World} (h : KpB n0 Bs W W') (o : Nat) : W'.cell? ⟨Bs, o, none⟩ = W.cell? ⟨Bs, o, none⟩ := World.cell?_of_block h.2
theorem KpB.refl (n0 Bs : Nat) (W : World) : KpB n0 Bs W W := ⟨Below.refl _ _, rfl⟩
theorem KpB.trans {n0 Bs : Nat} {A B C : World} (h : KpB n0 Bs A B) (k : KpB n0 Bs B C) : KpB n0 Bs A C := ⟨h.1.trans k.1, k.2.trans h.2⟩
/-- the slice reads as the list, in a block below n0 -/
def PVn (n0 : Nat) (W : World) (A : Option Addr) (L : List Pk) : Prop := 0 < L.length → ∃ b off, A = some ⟨b, off, none⟩ ∧ b < n0 ∧ PS W b off L
theorem PVn.below {n0 : Nat} {W W' : World} {A : Option Addr} {L : List Pk} (h : PVn n0 W A L) (hb : Below n0 W W') : PVn n0 W' A L := fun h0 =>
  let ⟨b, off, e, hl, hp⟩ := h h0; ⟨b, off, e, hl, fun i p hi => (hp i p hi).keep (hb.block b hl)⟩
set_option maxRecDepth 100000 in
theorem bk1_in (F : Fence) (n : Nat) (hF : F.fn 89) (hro : F.round = none) (hn : 1 ≤ n) (l Bs n0 : Nat) (A : Option Addr) (c : Nat) (L : List Pk) (hL : L.length ≤ 10) (hok : ∀ p ∈ L, p.big) (J Jx : List BkE → World → Prop)
    (hY : ∀ pre x W, J pre W → pre.length < L.length → YieldAt F (n - 1) Try.prog l (encB x) W fun e W' =>
      (e = .returned (.bool true) ∧ J (pre ++ [x]) W' ∧ KpB n0 Bs W W') ∨ (e = .returned (.bool false) ∧ Jx (pre ++ [x]) W'))
    (W : World) (hBs : W.cell? ⟨Bs, 0, none⟩ = some (.slice A L.length c)) (hp : PVn n0 W A L) (h0 : J [] W) :
    CallsIn F n Try.prog 89 #[.func (.yield l) #[] #[], .pointer (some ⟨Bs, 0, none⟩)] W fun e W' => (∃ v, e = .returned v) ∧
      ((∃ ys, ys.map BkE.p = L.reverse ∧ J ys W') ∨ (∃ pre, True ∧ Jx pre W')) := by
  refine callsIn_of_wp Try.func89 rfl hF ?_ hro
  simp only [Try.ntmps89, List.size_toArray, List.length_cons, List.length_nil, Nat.reduceAdd, Nat.reduceSub, Array.replicate_succ, Array.replicate_zero, List.push_toArray, List.append_toArray, List.nil_append, List.cons_append]
  gi_wp2
  gi_loopw [3] (fun i wr => ∃ k : Nat, k ≤ L.length ∧ i = .int .i64 ((k : Int) - 1) ∧ (∃ ys, ys.map BkE.p = (L.drop k).reverse ∧ J ys wr) ∧ KpB n0 Bs W wr)
    (fun i _ => (intOf i + 1).toNat)
  case atStart => exact ⟨L.length, Nat.le_refl _, rfl, ⟨[], by simp, h0⟩, KpB.refl _ _ _⟩
  case round =>
    obtain ⟨k, hk, rfl, ⟨ys, hys, hJs⟩, hK⟩ := hrel
    rcases k with _ | j
    · have hd : decide (((0 : Nat) : Int) - 1 ≥ 0) = false := by simp
      rw [List.drop_zero] at hys
      have HYS := Lib.hid hys
      clear hys
      gi_wp2
      go_end0
      exact ⟨⟨_, rfl⟩, .inl ⟨ys, HYS.out, hJs⟩⟩
    · have e1 : ((j + 1 : Nat) : Int) - 1 = (j : Int) := by omega
      rw [e1]
      have hlt : j < L.length := by omega
      have hd : decide ((j : Int) ≥ 0) = true := by simp
      have hd2 : decide ((0 : Int) ≤ (j : Int)) = true := by simp
      obtain ⟨b, off, rfl, hb, hps⟩ := hp.below hK.1 (by omega)
      have hget : L[j]? = some L[j] := List.getElem?_eq_getElem hlt
      obtain ⟨c0, c1, c2, c3, c4, c5, c6, c7, c8⟩ := hps j _ hget
      have hpok : L[j].big := hok _ (List.getElem_mem hlt)
      have hdrop := drop_cons hget
      generalize hx : L[j] = p at *
      have hl : ys.length < L.length := by
        have := congrArg List.length hys
        simp at this; omega
      have hcs := (hK.cell 0).trans hBs
      obtain ⟨fn, tmps, assign, body, hy, hR⟩ := hY ys ⟨j, p, hpok⟩ wr hJs hl
      dsimp only [encB] at hy
      have HYS := Lib.hid hys
      have HD := Lib.hid hdrop
      have HK := Lib.hid hK
      have HG := Lib.hid hget
      have HX := Lib.hid hx
      have HPS := Lib.hid hps
      clear hys hdrop hK hget hx hps e1
      have hjs : IntKind.i64.wrap ((j : Int) - 1) = (j : Int) - 1 := IntWalk.i64_in _ (by omega)
      gi_wp2
      refine hR.mono ?_
      rintro e W3 (⟨rfl, hJ3, hk3⟩ | ⟨rfl, hJx3⟩)
      · gi_wp2
        go_roundw
        case rel => exact ⟨j, by omega, by go_num, ⟨_, by rw [HD.out, List.reverse_cons, List.map_append, HYS.out]; rfl, hJ3⟩, HK.out.trans hk3⟩
        case measure => simp [intOf]
      · gi_wp2
        refine bodyPost_ret (results_none rfl _ _ _) rfl ?_
        exact ⟨⟨_, rfl⟩, .inr ⟨_, trivial, hJx3⟩⟩
end Go.Proofs.Ytjdjahckdgbkbac
end
section
namespace Go.Proofs.Ytjdjahckdgbkbac
open Go.RowKit
set_option linter.unusedVariables false
set_option maxHeartbeats 4000000
attribute [local go_sem 5000] run_mx run_mn
attribute [local go_sem] Oper.semAt_some
set_option maxRecDepth 100000 in
theorem backward_in (F : Fence) (n : Nat) (hF : F.fn 64) (hro : F.round = none) (a : Option Addr) (len cap : Nat) (w : World) :
    CallsIn F n Try.prog 64 #[.slice a len cap] w fun e w' => e = .returned (.func (.func 89) #[] #[.pointer (some ⟨w.heap.size, 0, none⟩)]) ∧ w' = w.alloc (.cells #[.slice a len cap] 28) := by
  refine callsIn_of_wp Try.func64 rfl hF ?_ hro
  simp only [Try.ntmps64, List.size_toArray, List.length_cons, List.length_nil, Nat.reduceAdd, Nat.reduceSub, Array.replicate_succ, Array.replicate_zero, List.push_toArray, List.append_toArray, List.nil_append, List.cons_append]
  gi_wp2
  go_ret
  exact ⟨rfl, rfl⟩
theorem bk_stops (F : Fence) (n : Nat) (hF : F.fn 89) (hro : F.round = none) (hn : 1 ≤ n) (Bs n0 : Nat) (A : Option Addr) (c : Nat) (L : List Pk) (hL : L.length ≤ 10) (hok : ∀ p ∈ L, p.big) (w : World) (hBs : Bs < w.heap.size) (hn0 : n0 ≤ w.heap.size)
    (hc : w.cell? ⟨Bs, 0, none⟩ = some (.slice A L.length c)) (hp : PVn n0 w A L) :
    SeqStopsK F n Try.prog 89 #[.pointer (some ⟨Bs, 0, none⟩)] encB (KpB n0 Bs) (fun ys => ys.map BkE.p = L.reverse) (fun _ => True) L.length w := fun l J Jx W hW _ _ hY h0 =>
  bk1_in F n hF hro hn l Bs n0 A c L hL hok J Jx hY W ((hW.cell (p := ⟨Bs, 0, none⟩) hBs).trans hc) (hp.below (hW.mono hn0)) h0
/-- what the items that have come need -/
def accB (d : Bool) : List BkE → Int
  | [] => 0
  | x :: t => if x.p.down = d then accB d t + x.p.need d else mx (accB d t) (x.p.need d)
theorem accB_bd (d : Bool) : ∀ ys : List BkE, 0 ≤ accB d ys ∧ accB d ys ≤ 1000000000020 * ys.length
  | [] => by simp [accB]
  | x :: t => by
    have := accB_bd d t
    have nb := Pk.need_bdW x.ok d
    have m := mx_spec (accB d t) (x.p.need d)
    simp only [accB, List.length_cons]
    split <;> omega
def acc (d : Bool) (ys : List BkE) : Int := accB d ys.reverse
theorem acc_bd (d : Bool) (ys : List BkE) : 0 ≤ acc d ys ∧ acc d ys ≤ 1000000000020 * ys.length := by have := accB_bd d ys.reverse; rwa [List.length_reverse] at this
theorem acc_same {d : Bool} {ys : List BkE} {x : BkE} (h : x.p.down = d) : acc d (ys ++ [x]) = acc d ys + x.p.need d := by
  simp [acc, accB, h]
theorem acc_other {d : Bool} {ys : List BkE} {x : BkE} (h : ¬ x.p.down = d) : acc d (ys ++ [x]) = mx (acc d ys) (x.p.need d) := by
  simp only [acc, List.reverse_append, List.reverse_cons, List.reverse_nil, List.nil_append, List.cons_append, accB, if_neg h]
theorem accB_req {d : Bool} : ∀ {ys : List BkE} {L : List Pk}, ys.map BkE.p = L → accB d ys = reqD L d
  | [], L, h => by
    simp at h; subst h
    rw [reqD_nil]; rfl
  | x :: t, L, h => by
    simp at h
    subst h
    have ih := accB_req (d := d) (ys := t) rfl
    by_cases hd : x.p.down = d
    · rw [reqD_same hd, ← ih, accB, if_pos hd]
    · rw [reqD_other hd, ← ih, accB, if_neg hd]
theorem acc_req {d : Bool} {ys : List BkE} {L : List Pk} (h : ys.map BkE.p = L.reverse) : acc d ys = reqD L d := by
  refine accB_req ?_
  rw [List.map_reverse, h, List.reverse_reverse]
theorem isDown_b (p : Pk) (b : Bool) (h : p.down = b) (w : World) : Calls Try.prog 42 #[.agg #[.int .i64 p.w, .int .i64 p.h, .int .i64 p.s, .bool p.fx, .bool p.fy, .bool p.ex, .int .i64 p.an, .int .i64 p.px, .int .i64 p.py]] w fun e w' => e = .returned (.bool b) ∧ Below w.heap.size w w' := by rw [← h]; exact isDown_v p w
theorem bdr {W w' : World} (h : Below W.drew.heap.size W.drew w') : Below W.heap.size W w' := (Below.refl _ _).drew.trans h
theorem keepsFrom_below {B : Nat} {W W' : World} (h : Below W.heap.size W W') : KeepsFrom B W W' := ⟨h.size, fun k o _ hk _ => (h.block k (Array.getElem?_eq_some_iff.1 hk).1).trans hk⟩
theorem kpB_below {n0 Bs : Nat} {W W' : World} (h : Below W.heap.size W W') (h0 : n0 ≤ W.heap.size) (hs : Bs < W.heap.size) : KpB n0 Bs W W' := ⟨h.mono h0, h.block Bs hs⟩
theorem round_end {w W w2 : World} {B0 : Nat} {A : Option Addr} {c : Nat} {L : List Pk} {d : Bool} {pre : List BkE} {x : BkE} {v u : Int} {T1 T2 T3 : TypeId} (b2 : Below W.heap.size W w2) (bS : Boxed W (w.heap.size + 1) T1 (.int .i64 u)) (bD : Boxed W w.heap.size T2 (.bool d)) (bL : Boxed W (w.heap.size + 1 + 1) T3 (.slice A L.length c)) (hB : Below w.heap.size w W) (hl : w.heap.size ≤ W.heap.size) (hv : acc d (pre ++ [x]) = v) :
    KeepsFrom B0 W (w2.setCell ⟨w.heap.size + 1, 0, none⟩ (.int .i64 v)) ∧ KpB w.heap.size (w.heap.size + 1 + 1) W (w2.setCell ⟨w.heap.size + 1, 0, none⟩ (.int .i64 v)) ∧
      ((Boxed (w2.setCell ⟨w.heap.size + 1, 0, none⟩ (.int .i64 v)) (w.heap.size + 1) T1 (.int .i64 (acc d (pre ++ [x]))) ∧ (Boxed (w2.setCell ⟨w.heap.size + 1, 0, none⟩ (.int .i64 v)) w.heap.size T2 (.bool d) ∧ Boxed (w2.setCell ⟨w.heap.size + 1, 0, none⟩ (.int .i64 v)) (w.heap.size + 1 + 1) T3 (.slice A L.length c))) ∧
        Below w.heap.size w (w2.setCell ⟨w.heap.size + 1, 0, none⟩ (.int .i64 v))) := by
  have cS : Boxed w2 (w.heap.size + 1) T1 (.int .i64 u) := (b2.block _ bS.lt).trans bS
  have cD : Boxed w2 w.heap.size T2 (.bool d) := (b2.block _ bD.lt).trans bD
  have cL : Boxed w2 (w.heap.size + 1 + 1) T3 (.slice A L.length c) := (b2.block _ bL.lt).trans bL
  refine ⟨(keepsFrom_below b2).trans ((KeepsOthers.setCell _ _ _).from _), (kpB_below b2 hl bL.lt).trans ⟨(Below.refl _ _).setCell (p := ⟨w.heap.size + 1, 0, none⟩) (by simp) _, Below.heap_setCell _ ⟨w.heap.size + 1, 0, none⟩ _ _ (by simp)⟩, ⟨⟨by rw [hv]; exact cS.set _, cD.other (by omega) _, cL.other (by omega) _⟩, (hB.trans (b2.mono hl)).setCell (p := ⟨w.heap.size + 1, 0, none⟩) (by simp) _⟩⟩
set_option maxRecDepth 100000 in
theorem packRequest_w (A : Option Addr) (c : Nat) (L : List Pk) (d : Bool) (w : World) (h : PV w A L) (hok : ∀ p ∈ L, p.big) (h7 : L.length ≤ 10) :
    Calls Try.prog 36 #[.slice A L.length c, .bool d] w fun e W' => e = .returned (.int .i64 (reqD L d)) ∧ Below w.heap.size w W' := by
  have HOK := Lib.hid hok
  clear hok
  refine (callsIn_wide (n := 6)).1 ?_
  refine callsIn_of_wp_marks Try.func36 rfl trivial ?_ rfl
  simp only [Try.ntmps36, List.size_toArray, List.length_cons, List.length_nil, Nat.reduceAdd, Nat.reduceSub, Array.replicate_succ, Array.replicate_zero, List.push_toArray, List.append_toArray, List.nil_append, List.cons_append]
  gi_wp2_with (refine ⟨trivial, ?_⟩; gi_at_call 64; refine (backward_in Fence.wide _ trivial rfl _ _ _ _).mono ?_; rintro e w' ⟨rfl, rfl⟩)
  have bL := Boxed.new ((w.alloc (.cells #[.bool d] 4)).alloc (.cells #[.int .i64 0] 3)) 28 (.slice A L.length c)
  have bS := (Boxed.new (w.alloc (.cells #[.bool d] 4)) 3 (.int .i64 0)).alloc (.cells #[.slice A L.length c] 28)
  have bD := ((Boxed.new w 4 (.bool d)).alloc (.cells #[.int .i64 0] 3)).alloc (.cells #[.slice A L.length c] 28)
  simp only [World.size_alloc] at bL bS bD
  have hB0 : Below w.heap.size w (((w.alloc (.cells #[.bool d] 4)).alloc (.cells #[.int .i64 0] 3)).alloc (.cells #[.slice A L.length c] 28)) := (((Below.refl _ w).alloc (Nat.le_refl _) _).alloc (by simp) _).alloc (by simp; omega) _
  have hsz : (((w.alloc (.cells #[.bool d] 4)).alloc (.cells #[.int .i64 0] 3)).alloc (.cells #[.slice A L.length c] 28)).heap.size = w.heap.size + 3 := by simp
  obtain ⟨W0, hW0⟩ : ∃ W0, ((w.alloc (.cells #[.bool d] 4)).alloc (.cells #[.int .i64 0] 3)).alloc (.cells #[.slice A L.length c] 28) = W0 := ⟨_, rfl⟩
  rw [hW0] at bL bS bD hB0 hsz ⊢
  clear hW0
  have hp0 : PVn w.heap.size W0 A L := PVn.below (fun h0 => let ⟨b, off, e, hl, hp⟩ := h.cells h0; ⟨b, off, e, hl, hp⟩) hB0
  refine wpIn_rangeFunc_ownH rfl (by omega) (gf := 89) (lb := #[.pointer (some ⟨w.heap.size + 1 + 1, 0, none⟩)]) rfl trivial (enters_of Try.func89 (by kernel_rfl) rfl)
    (bk_stops Fence.wide _ trivial rfl (by omega) (w.heap.size + 1 + 1) w.heap.size A c L h7 HOK.out W0 (by omega) (by omega) bL.cell hp0) KpB.trans
    (fun W l o o' hl ho hc hw => ⟨belowK_b (w := W0) (by omega) W l o o' hl ho hc hw, World.putObj_heap_other (by omega)⟩) (Below.refl _ _) (fun _ => rfl)
    (fun pre W => (Boxed W (w.heap.size + 1) 3 (.int .i64 (acc d pre)) ∧ (Boxed W w.heap.size 4 (.bool d) ∧ Boxed W (w.heap.size + 1 + 1) 28 (.slice A L.length c))) ∧ Below w.heap.size w W)
    (fun _ _ _ => False)
    (OwnFrom.and (OwnFrom.and (Own.from (boxed_own _ _ _) _) (OwnFrom.and (Own.from (boxed_own _ _ _) _) (Own.from (boxed_own _ _ _) _))) (ownFrom_below (Nat.le_refl _) (by omega)))
    (fun _ _ _ _ _ hs _ _ => hs)
    ⟨⟨bS, bD, bL⟩, hB0⟩
    (fun x a' W => ∃ Bx, w.heap.size + 2 < Bx ∧ W.heap[Bx]? = some (.cells #[.int .i64 x.p.w, .int .i64 x.p.h, .int .i64 x.p.s, .bool x.p.fx, .bool x.p.fy, .bool x.p.ex, .int .i64 x.p.an, .int .i64 x.p.px, .int .i64 x.p.py] 24 (0, 0)) ∧ a' = { tmps := #[.slice A L.length c, .bool d, undef, .pointer (some ⟨w.heap.size, 0, none⟩), .int .i64 0, .pointer (some ⟨w.heap.size + 1, 0, none⟩), undef, .pointer (some ⟨Bx, 0, none⟩), .slice A L.length c, .func (.func 89) #[] #[.pointer (some ⟨w.heap.size + 1 + 1, 0, none⟩)], .int .i64 x.i, .agg #[.int .i64 x.p.w, .int .i64 x.p.h, .int .i64 x.p.s, .bool x.p.fx, .bool x.p.fy, .bool x.p.ex, .int .i64 x.p.an, .int .i64 x.p.px, .int .i64 x.p.py], undef, undef, undef, undef, undef, undef, undef, undef, undef, undef, undef, undef, undef, undef, undef], defers := [] })
    (fun x a' _ X Y row hs hg hr => by
      obtain ⟨Bx, h1, h2, h3⟩ := hs
      exact ⟨Bx, h1, (hg.block Bx (Array.getElem?_eq_some_iff.1 h2).1 (fun e => by
        obtain ⟨_, o, ho, hoc⟩ := hr Bx e.symm
        rw [h2] at ho
        obtain rfl := Option.some.inj ho
        simp [Obj.isCells] at hoc)).trans h2, h3⟩)
    ?assign ?body ?done ?stop
  case assign =>
    rintro l pre x W K ⟨⟨bS1, bD1, bL1⟩, hB1⟩ hK
    have hlt2 := bL1.lt
    simp only [encB]
    gi_wp2
    refine hK _ _ ((KeepsOthers.alloc _ _).from _) ⟨(Below.refl _ W).alloc hB1.size _, Below.heap_alloc _ _ _ (by omega)⟩ ⟨⟨bS1.alloc _, bD1.alloc _, bL1.alloc _⟩, hB1.alloc hB1.size _⟩ ⟨W.heap.size, by omega, heap_new _ _, rfl⟩
  case body =>
    rintro l pre x a' W hl ⟨r, hr⟩ ⟨⟨bS1, bD1, bL1⟩, hB1⟩ ⟨Bx, hBx, hX, rfl⟩ hlt
    have cS := bS1.cell
    have fS := bS1.frozen
    have cD := bD1.cell
    have sS := bS1.lt
    have sD := bD1.lt
    have sL := bL1.lt
    have sX : Bx < W.heap.size := (Array.getElem?_eq_some_iff.1 hX).1
    obtain ⟨a1, a2⟩ := acc_bd d pre
    have nb := Pk.need_bdW x.ok d
    obtain ⟨c0, c1, c2, c3, c4, c5, c6, c7, c8⟩ := b9c hX
    have hmx : Try.prog.follows .mixedOrders = true := by kernel_rfl
    have hn1 : 1 ≤ 6 - 1 - 1 := by omega
    have hl0 : w.heap.size ≤ W.heap.size := hB1.size
    cases d <;> cases hdn : x.p.down
    · have hacc := acc_same (ys := pre) (x := x) (d := false) hdn
      have HA := Lib.hid hacc
      clear hacc
      gi_wp2
      gi_region_with_o (refine ⟨trivial, ?_⟩; gi_at_call 42; refine (CallsIn.inRound l (callsIn_wide.2 (isDown_b x.p false hdn _))).mono ?_; rintro e w1 ⟨rfl, hb1⟩; have b1 := bdr hb1; have kD := (b1.cell (p := ⟨w.heap.size, 0, none⟩) sD).trans cD; have kS := (b1.cell (p := ⟨w.heap.size + 1, 0, none⟩) sS).trans cS; have kX := (b1.block Bx sX).trans hX; obtain ⟨k0, k1, k2, k3, k4, k5, k6, k7, k8⟩ := b9c kX; have z1 := b1.size; have tS := Nat.lt_of_lt_of_le sS z1; have tD := Nat.lt_of_lt_of_le sD z1)
      all_goals
        gi_wp2
        gi_region_with_o (refine ⟨trivial, ?_⟩; gi_at_call 65; refine (CallsIn.inRound l (callsIn_wide.2 (need_w x.p false _ x.ok))).mono ?_; rintro e w2 ⟨rfl, hb2⟩; have b2 := b1.trans ((bdr hb2).mono z1); have jD := (b2.cell (p := ⟨w.heap.size, 0, none⟩) sD).trans cD; have jS := (b2.cell (p := ⟨w.heap.size + 1, 0, none⟩) sS).trans cS; have fS2 := (b2.frozen (p := ⟨w.heap.size + 1, 0, none⟩) sS).trans fS; clear kS kD k0 k1 k2 k3 k4 k5 k6 k7 k8)
        all_goals
          gi_wp2
          all_goals (try go_bits)
          all_goals exact round_end b2 bS1 bD1 bL1 hB1 hl0 HA.out
    · have hacc := acc_other (ys := pre) (x := x) (d := false) (by simp [hdn])
      have HA := Lib.hid hacc
      clear hacc
      gi_wp2
      gi_region_with_o (refine ⟨trivial, ?_⟩; gi_at_call 42; refine (CallsIn.inRound l (callsIn_wide.2 (isDown_b x.p true hdn _))).mono ?_; rintro e w1 ⟨rfl, hb1⟩; have b1 := bdr hb1; have kD := (b1.cell (p := ⟨w.heap.size, 0, none⟩) sD).trans cD; have kS := (b1.cell (p := ⟨w.heap.size + 1, 0, none⟩) sS).trans cS; have kX := (b1.block Bx sX).trans hX; obtain ⟨k0, k1, k2, k3, k4, k5, k6, k7, k8⟩ := b9c kX; have z1 := b1.size; have tS := Nat.lt_of_lt_of_le sS z1; have tD := Nat.lt_of_lt_of_le sD z1)
      all_goals
        gi_wp2
        gi_region_with_o (refine ⟨trivial, ?_⟩; gi_at_call 65; refine (CallsIn.inRound l (callsIn_wide.2 (need_w x.p false _ x.ok))).mono ?_; rintro e w2 ⟨rfl, hb2⟩; have b2 := b1.trans ((bdr hb2).mono z1); have jD := (b2.cell (p := ⟨w.heap.size, 0, none⟩) sD).trans cD; have jS := (b2.cell (p := ⟨w.heap.size + 1, 0, none⟩) sS).trans cS; have fS2 := (b2.frozen (p := ⟨w.heap.size + 1, 0, none⟩) sS).trans fS; clear kS kD k0 k1 k2 k3 k4 k5 k6 k7 k8)
        all_goals
          gi_wp2
          all_goals (try go_bits)
          all_goals exact round_end b2 bS1 bD1 bL1 hB1 hl0 HA.out
    · have hacc := acc_other (ys := pre) (x := x) (d := true) (by simp [hdn])
      have HA := Lib.hid hacc
      clear hacc
      gi_wp2
      gi_region_with_o (refine ⟨trivial, ?_⟩; gi_at_call 42; refine (CallsIn.inRound l (callsIn_wide.2 (isDown_b x.p false hdn _))).mono ?_; rintro e w1 ⟨rfl, hb1⟩; have b1 := bdr hb1; have kD := (b1.cell (p := ⟨w.heap.size, 0, none⟩) sD).trans cD; have kS := (b1.cell (p := ⟨w.heap.size + 1, 0, none⟩) sS).trans cS; have kX := (b1.block Bx sX).trans hX; obtain ⟨k0, k1, k2, k3, k4, k5, k6, k7, k8⟩ := b9c kX; have z1 := b1.size; have tS := Nat.lt_of_lt_of_le sS z1; have tD := Nat.lt_of_lt_of_le sD z1)
      all_goals
        gi_wp2
        gi_region_with_o (refine ⟨trivial, ?_⟩; gi_at_call 65; refine (CallsIn.inRound l (callsIn_wide.2 (need_w x.p true _ x.ok))).mono ?_; rintro e w2 ⟨rfl, hb2⟩; have b2 := b1.trans ((bdr hb2).mono z1); have jD := (b2.cell (p := ⟨w.heap.size, 0, none⟩) sD).trans cD; have jS := (b2.cell (p := ⟨w.heap.size + 1, 0, none⟩) sS).trans cS; have fS2 := (b2.frozen (p := ⟨w.heap.size + 1, 0, none⟩) sS).trans fS; clear kS kD k0 k1 k2 k3 k4 k5 k6 k7 k8)
        all_goals
          gi_wp2
          all_goals (try go_bits)
          all_goals exact round_end b2 bS1 bD1 bL1 hB1 hl0 HA.out
    · have hacc := acc_same (ys := pre) (x := x) (d := true) hdn
      have HA := Lib.hid hacc
      clear hacc
      gi_wp2
      gi_region_with_o (refine ⟨trivial, ?_⟩; gi_at_call 42; refine (CallsIn.inRound l (callsIn_wide.2 (isDown_b x.p true hdn _))).mono ?_; rintro e w1 ⟨rfl, hb1⟩; have b1 := bdr hb1; have kD := (b1.cell (p := ⟨w.heap.size, 0, none⟩) sD).trans cD; have kS := (b1.cell (p := ⟨w.heap.size + 1, 0, none⟩) sS).trans cS; have kX := (b1.block Bx sX).trans hX; obtain ⟨k0, k1, k2, k3, k4, k5, k6, k7, k8⟩ := b9c kX; have z1 := b1.size; have tS := Nat.lt_of_lt_of_le sS z1; have tD := Nat.lt_of_lt_of_le sD z1)
      all_goals
        gi_wp2
        gi_region_with_o (refine ⟨trivial, ?_⟩; gi_at_call 65; refine (CallsIn.inRound l (callsIn_wide.2 (need_w x.p true _ x.ok))).mono ?_; rintro e w2 ⟨rfl, hb2⟩; have b2 := b1.trans ((bdr hb2).mono z1); have jD := (b2.cell (p := ⟨w.heap.size, 0, none⟩) sD).trans cD; have jS := (b2.cell (p := ⟨w.heap.size + 1, 0, none⟩) sS).trans cS; have fS2 := (b2.frozen (p := ⟨w.heap.size + 1, 0, none⟩) sS).trans fS; clear kS kD k0 k1 k2 k3 k4 k5 k6 k7 k8)
        all_goals
          gi_wp2
          all_goals (try go_bits)
          all_goals exact round_end b2 bS1 bD1 bL1 hB1 hl0 HA.out
  case done =>
    rintro D ys W hD hys ⟨⟨bS1, bD1, bL1⟩, hB1⟩ hK
    have cS := bS1.cell
    rw [acc_req hys] at cS
    gi_wp2
    refine ⟨by simp, .inl ⟨_, _, rfl, run_takeDeferred hK, ?_⟩⟩
    exact ⟨_, results_tmp rfl _ _ _, rfl, hB1.trans (belowK_b (w := w) (Nat.le_refl _) W D _ _ (by omega) hK rfl rfl)⟩
  case stop =>
    rintro D c pre W _ _ h _
    exact h.elim
theorem packRequest_v (A : Option Addr) (c : Nat) (L : List Pk) (d : Bool) (w : World) (h : PV w A L) (hL : vpsB L = true) :
    Calls Try.prog 36 #[.slice A L.length c, .bool d] w fun e W' => e = .returned (.int .i64 (reqD L d)) ∧ Below w.heap.size w W' := by
  obtain ⟨hok, h7⟩ := vpsB_iff.1 hL
  exact packRequest_w A c L d w h (fun p hp => Pk.ok_big (hok p hp)) (by omega)
end Go.Proofs.Ytjdjahckdgbkbac
end
section
namespace Go.Proofs.Ytjdjahckdgbkbac
open Go.RowKit
set_option linter.unusedVariables false
set_option maxHeartbeats 1000000
attribute [local go_sem 5000] run_mx run_mn
def reqP (L : List Pk) : Int × Int := if vpsB L then reqM L else (-1, -1)
set_option maxRecDepth 100000 in
theorem PackRequest_c (A : Option Addr) (c n : Nat) (L : List Pk) (w : World) (h : PV w A L) (hn : n = L.length) (hL : n ≤ 1048576) (a b : Int) (hr : reqP L = (a, b)) :
    Calls Try.prog 13 #[.slice A n c] w fun e w' => e = .returned (.tuple #[.int .i64 a, .int .i64 b]) ∧ Below w.heap.size w w' := by
  subst hn
  unfold reqP at hr
  cases hv : vpsB L
  · rw [hv] at hr
    simp at hr
    obtain ⟨rfl, rfl⟩ := hr
    go_enter Try.func13, Try.ntmps13
    go_wp2_with fail
    with_reducible refine (vps_v _ c L false _ h hL hv).mono ?_
    rintro e w1 ⟨rfl, hbb⟩
    have HB := Lib.hid hbb
    clear hbb
    go_wp2
    exact bodyPost_ret (v := .tuple #[.int .i64 (-1), .int .i64 (-1)]) (by simp only [results, Try.results13]; go_simp) rfl ⟨rfl, HB.out⟩
  · rw [hv] at hr
    simp only [if_true] at hr
    have h1 : reqD L false = a := by show (reqM L).1 = a; rw [hr]
    have h2 : reqD L true = b := by show (reqM L).2 = b; rw [hr]
    have H1 := Lib.hid h1
    have H2 := Lib.hid h2
    clear h1 h2 hr
    go_enter Try.func13, Try.ntmps13
    go_wp2_with fail
    with_reducible refine (vps_v _ c L true _ h hL hv).mono ?_
    rintro e w1 ⟨rfl, hbb⟩
    have HB := Lib.hid hbb
    clear hbb
    go_wp2_with fail
    with_reducible refine (packRequest_v A c L false _ (h.keep HB.out) hv).mono ?_
    rintro e w2 ⟨rfl, hb2⟩
    rw [H1.out]
    replace HB := Lib.hid (bkeep2 HB.out hb2)
    clear hb2
    go_wp2_with fail
    with_reducible refine (packRequest_v A c L true _ (h.keep HB.out) hv).mono ?_
    rintro e w3 ⟨rfl, hb3⟩
    rw [H2.out]
    replace HB := Lib.hid (bkeep2 HB.out hb3)
    clear hb3
    go_wp2
    exact bodyPost_ret (v := .tuple #[.int .i64 a, .int .i64 b]) (by simp only [results, Try.results13]; go_simp) rfl ⟨rfl, HB.out⟩
set_option maxRecDepth 100000 in
theorem sPackRequest_c (A : Option Addr) (c n : Nat) (L : List Pk) (w : World) (h : PV w A L) (hn : n = L.length) (hL : n ≤ 1048576) (a b : Int) (hr : reqP L = (a, b)) :
    Calls Try.prog 14 #[.slice A n c] w fun e w' => e = .returned (.tuple #[.int .i64 a, .int .i64 b]) ∧ Below w.heap.size w w' := by
  subst hn
  unfold reqP at hr
  cases hv : vpsB L
  · rw [hv] at hr
    simp at hr
    obtain ⟨rfl, rfl⟩ := hr
    go_enter Try.func14, Try.ntmps14
    go_wp2_with fail
    with_reducible refine (svps_v _ c L false _ h hL hv).mono ?_
    rintro e w1 ⟨rfl, hbb⟩
    have HB := Lib.hid hbb
    clear hbb
    go_wp2
    exact bodyPost_ret (v := .tuple #[.int .i64 (-1), .int .i64 (-1)]) (by simp only [results, Try.results14]; go_simp) rfl ⟨rfl, HB.out⟩
  · rw [hv] at hr
    simp only [if_true] at hr
    have h1 : (reqM L).1 = a := by rw [hr]
    have h2 : (reqM L).2 = b := by rw [hr]
    have H1 := Lib.hid h1
    have H2 := Lib.hid h2
    clear h1 h2 hr
    go_enter Try.func14, Try.ntmps14
    go_wp2_with fail
    with_reducible refine (svps_v _ c L true _ h hL hv).mono ?_
    rintro e w1 ⟨rfl, hbb⟩
    have HB := Lib.hid hbb
    clear hbb
    go_wp2_with fail
    with_reducible refine (request_v A c L _ (h.keep HB.out) hv).mono ?_
    rintro e w2 ⟨rfl, hb2⟩
    rw [H1.out, H2.out]
    replace HB := Lib.hid (bkeep2 HB.out hb2)
    clear hb2
    go_wp2
    exact bodyPost_ret (v := .tuple #[.int .i64 a, .int .i64 b]) (by simp only [results, Try.results14]; go_simp) rfl ⟨rfl, HB.out⟩
end Go.Proofs.Ytjdjahckdgbkbac
end
