import Derived.Test.YtgdkionmeacalaaGreatQ11
import Derived.OwnWalk
import Derived.Laws.CopyOwn
section
namespace Go.Proofs.YtgdkionmeacalaaGreat
open Go.RowKit
set_option linter.unusedVariables false
set_option maxHeartbeats 1000000
attribute [local go_sem] growUpon_value growUpon_skip growUpon_enter
def acM (c : Ce) : Sp := ⟨c.co, c.mc, c.cw + 2 * c.px⟩
def dnM (c : Ce) : Sp := ⟨c.ro, c.mr, c.ch + 2 * c.py⟩
def smC (c : Ce) : Prop := (0 ≤ c.cw ∧ c.cw ≤ 30) ∧ (0 ≤ c.ch ∧ c.ch ≤ 30) ∧ (0 ≤ c.px ∧ c.px ≤ 10) ∧ (0 ≤ c.py ∧ c.py ≤ 10)
def smW (c : Ce) : Prop := (0 ≤ c.cw ∧ c.cw ≤ 1000000000000) ∧ (0 ≤ c.ch ∧ c.ch ≤ 1000000000000) ∧ (0 ≤ c.px ∧ c.px ≤ 10) ∧ (0 ≤ c.py ∧ c.py ≤ 10)
theorem smC.w {c : Ce} (h : smC c) : smW c := by unfold smC at h; unfold smW; omega
set_option maxRecDepth 100000 in
theorem across_e (p : Ce) (w : World) (h : smW p) : Calls Tryz.prog 157 #[.agg #[.int .i64 p.co, .int .i64 p.ro, .int .i64 p.mc, .int .i64 p.mr, .int .i64 p.cw, .int .i64 p.ch, .int .i64 p.sk, .int .i64 p.px, .int .i64 p.py]] w fun e w' => e = .returned (.agg #[.int .i64 p.co, .int .i64 p.mc, .int .i64 (p.cw + 2 * p.px)]) ∧ Below w.heap.size w w' := by
  obtain ⟨⟨b1, b2⟩, ⟨b3, b4⟩, ⟨b5, b6⟩, ⟨b7, b8⟩⟩ := h
  go_enter Tryz.func157, Tryz.ntmps157
  go_wp2
  exact bodyPost_ret (v := .agg #[.int .i64 p.co, .int .i64 p.mc, .int .i64 (p.cw + 2 * p.px)]) (by simp only [results, Tryz.results157]; go_simp) rfl ⟨rfl, (by repeat (first | with_reducible exact Below.refl _ _ | with_reducible assumption | with_reducible refine balloc ?_ | (with_reducible refine bset ?_ ?_; rotate_left; ((try dsimp only); omega)) | refine bkeep2 ?_ (by assumption) | with_reducible refine Below.drew ?_))⟩
set_option maxRecDepth 100000 in
theorem across_v (p : Ce) (w : World) (h : smW p) : Calls Tryz.prog 157 #[.agg #[.int .i64 p.co, .int .i64 p.ro, .int .i64 p.mc, .int .i64 p.mr, .int .i64 p.cw, .int .i64 p.ch, .int .i64 p.sk, .int .i64 p.px, .int .i64 p.py]] w fun e w' => e = .returned (.agg #[.int .i64 (acM p).sa, .int .i64 (acM p).many, .int .i64 (acM p).need]) ∧ Below w.heap.size w w' := across_e p w h
set_option maxRecDepth 100000 in
theorem each_acrossW (A : Option Addr) (c : Nat) (L : List Ce) (w : World) (h : CeV w A L) (hL : L.length ≤ 1048576) (hsm : ∀ p ∈ L, smW p) :
    Calls Tryz.prog 169 #[.slice A L.length c, .func (.func 157) #[] #[]] w fun e w' => e = .returned (.slice (some ⟨w.heap.size, 0, none⟩) L.length L.length) ∧ SpB w' w.heap.size (L.map acM) ∧ Below w.heap.size w w' := by
  obtain ⟨f, hf, hmk0⟩ := madeSp
  have hmk : ∀ w : World, (Instr.makeSlice 117 (.int .i64 (L.length : Int)) (.int .i64 (L.length : Int))).run Tryz.prog w = .ok (.slice (some ⟨w.heap.size, 0, none⟩) L.length L.length) (w.alloc (.cells (f L.length) 161)) := fun w => hmk0 L.length w hL
  have HSM := Lib.hid hsm
  go_enter Tryz.func169, Tryz.ntmps169
  go_wp2_with fail
  have HWW : Hid (∃ cs : Array Value, (w.alloc (.cells (f L.length) 161)).heap[w.heap.size]? = some (.cells cs 161 (0, 0)) ∧ cs.size = L.length * 3 ∧ ∀ i p, i < 0 → (L.map acM)[i]? = some p → InS cs (i * 3) (valsSp p)) := Lib.hid ⟨_, newS _ _, hf _, fun i p hi => absurd hi (by omega)⟩
  clear hmk hmk0 hf hsm
  go_loopw [13] (fun i wr => ∃ k : Nat, k ≤ L.length ∧ i = .int .i64 k ∧ (∃ cs : Array Value, wr.heap[w.heap.size]? = some (.cells cs 161 (0, 0)) ∧ cs.size = L.length * 3 ∧ ∀ i p, i < k → (L.map acM)[i]? = some p → InS cs (i * 3) (valsSp p)) ∧ Below w.heap.size w wr) (fun i _ => L.length - (intOf i).toNat)
  case atStart => exact ⟨0, by omega, rfl, HWW.out, balloc (Below.refl _ _)⟩
  case round =>
    obtain ⟨k, hk, rfl, ⟨cs, hh, hs, hc⟩, hB⟩ := hrel
    clear HWW
    by_cases hlt : k < L.length
    · have hd : decide ((k : Int) < (L.length : Int)) = true := by simpa using hlt
      obtain ⟨b, off, rfl, hb, hp⟩ := (h.keep hB).cells (by omega)
      have hget : L[k]? = some L[k] := List.getElem?_eq_getElem hlt
      obtain ⟨c0, c1, c2, c3, c4, c5, c6, c7, c8⟩ := hp k _ hget
      have hsk : smW L[k] := HSM.out _ (List.getElem_mem hlt)
      generalize hx : L[k] = p at *
      have HG := Lib.hid (show (L.map acM)[k]? = some (acM p) by rw [List.getElem?_map, hget]; rfl)
      have HH := Lib.hid hh
      have HS := Lib.hid hs
      have HC := Lib.hid hc
      have HBB := Lib.hid hB
      have HK := Lib.hid hsk
      clear hget hx hh hs hc hB hp hsk
      go_wp2_with fail
      refine (across_v p _ HK.out).mono ?_
      rintro e w1 ⟨rfl, hb1⟩
      have hlg : w.heap.size < wr.heap.size := ltS HH.out
      have hb01 := bkeep2 (balloc (Below.refl wr.heap.size wr)) hb1
      replace HH := Lib.hid ((hb01.block _ hlg).trans HH.out)
      replace HBB := Lib.hid (HBB.out.trans (hb01.mono HBB.out.size))
      clear hb1 hb01 c0 c1 c2 c3 c4 c5 c6 c7 c8 hlg
      have hsz : k * 3 + 3 ≤ cs.size := by rw [HS.out]; omega
      obtain ⟨y0, d0⟩ := thereS HH.out (i := k * 3) (by omega)
      obtain ⟨y1, d1⟩ := thereS HH.out (i := k * 3 + 1) (by omega)
      obtain ⟨y2, d2⟩ := thereS HH.out (i := k * 3 + 2) (by omega)
      have f0 := frozenS HH.out (k * 3)
      have f1 := frozenS HH.out (k * 3 + 1)
      have f2 := frozenS HH.out (k * 3 + 2)
      have E1 := Lib.hid (putSp HH.out (k * 3) (acM p))
      have E2 := Lib.hid (putSpb HBB.out (Nat.le_refl _) (k * 3) (acM p))
      go_wp2
      go_roundw
      case rel => exact ⟨k + 1, by omega, by go_num, ⟨_, E1.out, (wrAt_size _ _ _).trans HS.out, fun i q hi hq => by
        by_cases e : i = k
        · subst e
          obtain rfl : (acM p) = q := by have := HG.out; rw [this] at hq; exact Option.some.inj hq
          exact InS.write (by simp only [valsSp, List.length_cons, List.length_nil]; omega)
        · exact (HC.out i q (by omega) hq).keepS (.inl (by simp only [valsSp, List.length_cons, List.length_nil]; omega))⟩, E2.out⟩
      case measure => simp [intOf]; omega
    · have hd : decide ((k : Int) < (L.length : Int)) = false := decide_eq_false (by omega)
      obtain rfl : k = L.length := by omega
      have HR := Lib.hid (show SpB wr w.heap.size (L.map acM) from ⟨cs, hh, by rw [List.length_map]; exact hs, fun i p hp => hc i p (by have := (List.getElem?_eq_some_iff.1 hp).1; rwa [List.length_map] at this) hp⟩)
      have HBB := Lib.hid hB
      clear hh hs hc hB
      go_wp2
      go_ret
      exact ⟨rfl, HR.out, HBB.out⟩
set_option maxRecDepth 100000 in
theorem down_e (p : Ce) (w : World) (h : smW p) : Calls Tryz.prog 170 #[.agg #[.int .i64 p.co, .int .i64 p.ro, .int .i64 p.mc, .int .i64 p.mr, .int .i64 p.cw, .int .i64 p.ch, .int .i64 p.sk, .int .i64 p.px, .int .i64 p.py]] w fun e w' => e = .returned (.agg #[.int .i64 p.ro, .int .i64 p.mr, .int .i64 (p.ch + 2 * p.py)]) ∧ Below w.heap.size w w' := by
  obtain ⟨⟨b1, b2⟩, ⟨b3, b4⟩, ⟨b5, b6⟩, ⟨b7, b8⟩⟩ := h
  go_enter Tryz.func170, Tryz.ntmps170
  go_wp2
  exact bodyPost_ret (v := .agg #[.int .i64 p.ro, .int .i64 p.mr, .int .i64 (p.ch + 2 * p.py)]) (by simp only [results, Tryz.results170]; go_simp) rfl ⟨rfl, (by repeat (first | with_reducible exact Below.refl _ _ | with_reducible assumption | with_reducible refine balloc ?_ | (with_reducible refine bset ?_ ?_; rotate_left; ((try dsimp only); omega)) | refine bkeep2 ?_ (by assumption) | with_reducible refine Below.drew ?_))⟩
set_option maxRecDepth 100000 in
theorem down_v (p : Ce) (w : World) (h : smW p) : Calls Tryz.prog 170 #[.agg #[.int .i64 p.co, .int .i64 p.ro, .int .i64 p.mc, .int .i64 p.mr, .int .i64 p.cw, .int .i64 p.ch, .int .i64 p.sk, .int .i64 p.px, .int .i64 p.py]] w fun e w' => e = .returned (.agg #[.int .i64 (dnM p).sa, .int .i64 (dnM p).many, .int .i64 (dnM p).need]) ∧ Below w.heap.size w w' := down_e p w h
set_option maxRecDepth 100000 in
theorem each_downW (A : Option Addr) (c : Nat) (L : List Ce) (w : World) (h : CeV w A L) (hL : L.length ≤ 1048576) (hsm : ∀ p ∈ L, smW p) :
    Calls Tryz.prog 169 #[.slice A L.length c, .func (.func 170) #[] #[]] w fun e w' => e = .returned (.slice (some ⟨w.heap.size, 0, none⟩) L.length L.length) ∧ SpB w' w.heap.size (L.map dnM) ∧ Below w.heap.size w w' := by
  obtain ⟨f, hf, hmk0⟩ := madeSp
  have hmk : ∀ w : World, (Instr.makeSlice 117 (.int .i64 (L.length : Int)) (.int .i64 (L.length : Int))).run Tryz.prog w = .ok (.slice (some ⟨w.heap.size, 0, none⟩) L.length L.length) (w.alloc (.cells (f L.length) 161)) := fun w => hmk0 L.length w hL
  have HSM := Lib.hid hsm
  go_enter Tryz.func169, Tryz.ntmps169
  go_wp2_with fail
  have HWW : Hid (∃ cs : Array Value, (w.alloc (.cells (f L.length) 161)).heap[w.heap.size]? = some (.cells cs 161 (0, 0)) ∧ cs.size = L.length * 3 ∧ ∀ i p, i < 0 → (L.map dnM)[i]? = some p → InS cs (i * 3) (valsSp p)) := Lib.hid ⟨_, newS _ _, hf _, fun i p hi => absurd hi (by omega)⟩
  clear hmk hmk0 hf hsm
  go_loopw [13] (fun i wr => ∃ k : Nat, k ≤ L.length ∧ i = .int .i64 k ∧ (∃ cs : Array Value, wr.heap[w.heap.size]? = some (.cells cs 161 (0, 0)) ∧ cs.size = L.length * 3 ∧ ∀ i p, i < k → (L.map dnM)[i]? = some p → InS cs (i * 3) (valsSp p)) ∧ Below w.heap.size w wr) (fun i _ => L.length - (intOf i).toNat)
  case atStart => exact ⟨0, by omega, rfl, HWW.out, balloc (Below.refl _ _)⟩
  case round =>
    obtain ⟨k, hk, rfl, ⟨cs, hh, hs, hc⟩, hB⟩ := hrel
    clear HWW
    by_cases hlt : k < L.length
    · have hd : decide ((k : Int) < (L.length : Int)) = true := by simpa using hlt
      obtain ⟨b, off, rfl, hb, hp⟩ := (h.keep hB).cells (by omega)
      have hget : L[k]? = some L[k] := List.getElem?_eq_getElem hlt
      obtain ⟨c0, c1, c2, c3, c4, c5, c6, c7, c8⟩ := hp k _ hget
      have hsk : smW L[k] := HSM.out _ (List.getElem_mem hlt)
      generalize hx : L[k] = p at *
      have HG := Lib.hid (show (L.map dnM)[k]? = some (dnM p) by rw [List.getElem?_map, hget]; rfl)
      have HH := Lib.hid hh
      have HS := Lib.hid hs
      have HC := Lib.hid hc
      have HBB := Lib.hid hB
      have HK := Lib.hid hsk
      clear hget hx hh hs hc hB hp hsk
      go_wp2_with fail
      refine (down_v p _ HK.out).mono ?_
      rintro e w1 ⟨rfl, hb1⟩
      have hlg : w.heap.size < wr.heap.size := ltS HH.out
      have hb01 := bkeep2 (balloc (Below.refl wr.heap.size wr)) hb1
      replace HH := Lib.hid ((hb01.block _ hlg).trans HH.out)
      replace HBB := Lib.hid (HBB.out.trans (hb01.mono HBB.out.size))
      clear hb1 hb01 c0 c1 c2 c3 c4 c5 c6 c7 c8 hlg
      have hsz : k * 3 + 3 ≤ cs.size := by rw [HS.out]; omega
      obtain ⟨y0, d0⟩ := thereS HH.out (i := k * 3) (by omega)
      obtain ⟨y1, d1⟩ := thereS HH.out (i := k * 3 + 1) (by omega)
      obtain ⟨y2, d2⟩ := thereS HH.out (i := k * 3 + 2) (by omega)
      have f0 := frozenS HH.out (k * 3)
      have f1 := frozenS HH.out (k * 3 + 1)
      have f2 := frozenS HH.out (k * 3 + 2)
      have E1 := Lib.hid (putSp HH.out (k * 3) (dnM p))
      have E2 := Lib.hid (putSpb HBB.out (Nat.le_refl _) (k * 3) (dnM p))
      go_wp2
      go_roundw
      case rel => exact ⟨k + 1, by omega, by go_num, ⟨_, E1.out, (wrAt_size _ _ _).trans HS.out, fun i q hi hq => by
        by_cases e : i = k
        · subst e
          obtain rfl : (dnM p) = q := by have := HG.out; rw [this] at hq; exact Option.some.inj hq
          exact InS.write (by simp only [valsSp, List.length_cons, List.length_nil]; omega)
        · exact (HC.out i q (by omega) hq).keepS (.inl (by simp only [valsSp, List.length_cons, List.length_nil]; omega))⟩, E2.out⟩
      case measure => simp [intOf]; omega
    · have hd : decide ((k : Int) < (L.length : Int)) = false := decide_eq_false (by omega)
      obtain rfl : k = L.length := by omega
      have HR := Lib.hid (show SpB wr w.heap.size (L.map dnM) from ⟨cs, hh, by rw [List.length_map]; exact hs, fun i p hp => hc i p (by have := (List.getElem?_eq_some_iff.1 hp).1; rwa [List.length_map] at this) hp⟩)
      have HBB := Lib.hid hB
      clear hh hs hc hB
      go_wp2
      go_ret
      exact ⟨rfl, HR.out, HBB.out⟩
end Go.Proofs.YtgdkionmeacalaaGreat
end
section
namespace Go.Proofs.YtgdkionmeacalaaGreat
open Go.RowKit
set_option linter.unusedVariables false
set_option maxHeartbeats 1000000
attribute [local go_sem 5000] run_mx run_mn
attribute [local go_sem] growUpon_value growUpon_skip growUpon_enter
theorem total_b (A : Option Addr) (c n : Nat) (L : List Int) (w : World) (h : NV w A L) (hn : n = L.length) (hL : n ≤ 1048576) (hM : Smal 1000000000000000 L) :
    Calls Tryz.prog 73 #[.slice A n c] w fun e w' => e = .returned (.int .i64 (sumI L)) ∧ Below w.heap.size w w' := by
  refine (total_n A c n L w h hn hL hM).mono ?_
  rintro e w1 ⟨rfl, rfl⟩
  exact ⟨rfl, Below.refl _ _⟩
theorem step_none {ws O : List Int} {s : Sp} (hw : wsOK (segI ws s.sa.toNat s.many.toNat)) (h : s.need - sumI (segI O s.sa.toNat s.many.toNat) ≤ 0) : stepM ws O s = O := by
  unfold stepM
  have hm : mx (s.need - sumI (segI O s.sa.toNat s.many.toNat)) 0 = 0 := by have := mx_spec (s.need - sumI (segI O s.sa.toNat s.many.toNat)) 0; omega
  rw [hm]
  exact addAt_zero (spread_zero hw)
theorem sspread_n (A : Option Addr) (c m : Nat) (n : Int) (ws : List Int) (w : World) (h : NV w A ws) (hm : m = ws.length) (hw : wsOK ws) (hn : 0 ≤ n) (hn2 : n ≤ 100000000000000) :
    Calls Tryz.prog 108 #[.int .i64 n, .slice A m c] w fun e w' => e = .returned (.slice (some ⟨w.heap.size, 0, none⟩) m m) ∧ IB w' w.heap.size (spreadM n ws) ∧ Below w.heap.size w w' := by subst hm; exact sspread_v A c n ws w h hw hn hn2
theorem seg_map (L : List Ln) (a m : Nat) : ((L.drop a).take m).map Ln.wt = segI (L.map Ln.wt) a m := by simp [segI, List.map_take, List.map_drop]
set_option maxRecDepth 100000 in
theorem wished_w (A : Option Addr) (c : Nat) (L : List Ln) (A' : Option Addr) (c' : Nat) (S : List Sp) (w : World) (h : LnV w A L) (hL : linesB L = true) (h' : SpV w A' S) (hS : spansW L.length S) (hc : L.length ≤ c) :
    Calls Tryz.prog 74 #[.slice A L.length c, .slice A' S.length c'] w fun e w' => (∃ g cap, e = .returned (.slice (some ⟨g, 0, none⟩) L.length cap) ∧ w.heap.size ≤ g ∧ OB w' g cap (wishM L S)) ∧ Below w.heap.size w w' := by
  obtain ⟨hl1, hl5⟩ := linesB_len hL
  obtain ⟨hs8, hsa⟩ := id hS
  have hww := (min_bd hL).2
  have HL := Lib.hid hL
  have HS := Lib.hid hS
  have HSA := Lib.hid hsa
  have HWW := Lib.hid hww
  obtain ⟨ti, tz, ti1, ti2, ti3, ti4, ti5⟩ := int_infoW
  obtain ⟨bl, offl, rfl, hbl, hpl⟩ := h.cells (by omega)
  have HPL := Lib.hid hpl
  clear hpl
  clear hL hS hsa hww
  go_enter Tryz.func74, Tryz.ntmps74
  go_wp2_with fail
  have ho0 : (w.alloc (.cells #[] 3 (0, 0))).ownsRow w.heap.size 3 1 (.slice (some ⟨w.heap.size, 0, none⟩) 0 0) 0 (nvalsW []) := World.ownsRow_lit (base := w.heap.size) (e := 3) (size := 1) w #[] 0 (Nat.le_refl _) (by decide) rfl
  have HO := Lib.hid ho0
  have HB := Lib.hid (balloc (o := (.cells #[] 3 (0, 0))) (Below.refl w.heap.size w))
  clear ho0
  go_loopw [5, 6] (fun out i wr => ∃ k : Nat, k ≤ L.length ∧ i = .int .i64 k ∧ wr.ownsRow w.heap.size 3 1 out k (nvalsW ((L.map Ln.mi).take k)) ∧ Below w.heap.size w wr) (fun _ i _ => L.length - (intOf i).toNat)
  case atStart => exact ⟨0, by omega, rfl, HO.out, HB.out⟩
  case round =>
    obtain ⟨k, hk, rfl, ho, hB⟩ := hrel
    clear HO HB
    by_cases hlt : k < L.length
    · have hd : decide ((k : Int) < (L.length : Int)) = true := by simpa using hlt
      obtain ⟨b, off, eA, hb, hp⟩ := (h.keep hB).cells (by omega)
      obtain ⟨rfl, rfl⟩ : bl = b ∧ offl = off := by injection eA with eA; injection eA with e1 e2; exact ⟨e1, e2⟩
      have hget : L[k]? = some L[k] := List.getElem?_eq_getElem hlt
      obtain ⟨c0, c1⟩ := hp k _ hget
      have hts := take_snocF (f := Ln.mi) hget
      generalize L[k] = x at *
      have hob := ho.lt
      have hw3 : w.heap.size ≤ wr.heap.size := hB.size
      have HO := Lib.hid ho
      have HB := Lib.hid hB
      have HTS := Lib.hid hts
      clear ho hB hts hp hget
      go_wp2_with (at_builtin; refine wpList_append_own _ rfl _ _ 34 rfl w.heap.size 3 ti tz 1 8 Tryz.underlying34 ti1 ti2 ti3 ti4 ti5 (by decide) _ _ _ rfl (HO.out.alloc _) ⟨wr.heap.size, 0, none⟩ 1 1 [.int .i64 x.mi] rfl rfl (newW _ _ _) (by simp [Value.oneCell']) (by simp only [maxLen]; omega) (by omega) (by simp; omega) ?_)
      intro v5 w5 how5 hgr5 _
      rw [nvalsW_snoc, ← HTS.out] at how5
      replace HB := Lib.hid (below_own HB.out hgr5 hob (Nat.le_refl _) (Nat.le_refl _))
      replace HO := Lib.hid how5
      clear how5 hgr5 hob c0 c1
      go_wp2
      go_roundw
      case rel => exact ⟨k + 1, by omega, by go_num, by simpa using HO.out, HB.out⟩
      case measure => simp [intOf]; omega
    · have hd : decide ((k : Int) < (L.length : Int)) = false := decide_eq_false (by omega)
      obtain rfl : k = L.length := by omega
      have he : (L.map Ln.mi).take L.length = L.map Ln.mi := List.take_of_length_le (by simp)
      rw [he] at ho
      have HB := Lib.hid hB
      rcases own_inW ho (by simp) with ⟨rfl, hM⟩ | ⟨g, cap, rfl, hbg, hO⟩
      · have hL0 : L.length = 0 := by simpa using congrArg List.length hM
        omega
      have HO := Lib.hid hO
      have hcap : L.length ≤ cap := by have := hO.1; simpa using this
      clear ho hB hO he hd hk
      go_wp2_with fail
      go_loopw [7] (fun i wr => ∃ k : Nat, k ≤ L.length ∧ i = .int .i64 ((k : Int) + 1) ∧ OB wr g cap (reqN (L.map Ln.wt) S (L.map Ln.mi) k) ∧ Below w.heap.size w wr) (fun i _ => L.length + 1 - (intOf i).toNat)
      case atStart => exact ⟨0, by omega, rfl, HO.out, HB.out⟩
      case round =>
        obtain ⟨k, hk, rfl, hO, hBr⟩ := hrel
        clear HO HB
        by_cases hlt : k < L.length
        · have hd : decide ((k : Int) + 1 ≤ (L.length : Int)) = true := by simp; omega
          have HO := Lib.hid hO
          have HB := Lib.hid hBr
          clear hO hBr
          go_wp2_with fail
          go_loopw [8] (fun i wr => ∃ j : Nat, j ≤ S.length ∧ i = .int .i64 j ∧ OB wr g cap (roundM (L.map Ln.wt) ((k : Int) + 1) (S.take j) (reqN (L.map Ln.wt) S (L.map Ln.mi) k)) ∧ Below w.heap.size w wr) (fun i _ => S.length - (intOf i).toNat)
          case atStart => exact ⟨0, by omega, rfl, HO.out, HB.out⟩
          case round =>
            obtain ⟨j, hj, rfl, hO, hBr⟩ := hrel
            clear HO HB
            by_cases hjl : j < S.length
            · have hd2 : decide ((j : Int) < (S.length : Int)) = true := by simpa using hjl
              obtain ⟨b', off', rfl, hb', hp⟩ := (h'.keep hBr).cells (by omega)
              have hget : S[j]? = some S[j] := List.getElem?_eq_getElem hjl
              obtain ⟨c0, c1, c2⟩ := hp j _ hget
              have hsp := HSA.out _ (List.mem_of_getElem? hget)
              have hro := roundM_snoc (ws := L.map Ln.wt) (m := (k : Int) + 1) (O := reqN (L.map Ln.wt) S (L.map Ln.mi) k) hget
              obtain ⟨a, m, e1, e2, hm1, ham, hn0, hn50⟩ := id hsp
              obtain ⟨hol, hob⟩ := at_bd HL.out HS.out hk hj
              generalize S[j] = s at *
              obtain ⟨sa, many, need⟩ := s
              dsimp only at e1 e2 hn0 hn50 c0 c1 c2
              subst e1 e2
              generalize roundM (L.map Ln.wt) ((k : Int) + 1) (S.take j) (reqN (L.map Ln.wt) S (L.map Ln.mi) k) = O at *
              have HO := Lib.hid hO
              have HB := Lib.hid hBr
              have HOB := Lib.hid hob
              have HOL := Lib.hid hol
              clear hO hBr hp hget hsp hob hol
              by_cases hmk : (m : Int) = (k : Int) + 1
              · have hmn : m = k + 1 := by omega
                subst hmn
                have HRO := Lib.hid hro
                clear hro
                have hal : ¬ cap = a := by omega
                have hal2 : ¬ c = a := by omega
                have hq1 : 0 ≤ (a : Int) + ((k : Int) + 1) := by omega
                have hq2 : (a : Int) + ((k : Int) + 1) ≤ (cap : Int) := by omega
                have hq2' : (a : Int) + ((k : Int) + 1) ≤ (c : Int) := by omega
                have hq3 : ((a : Int) + ((k : Int) + 1)).toNat = a + (k + 1) := by omega
                have hq4 : a ≤ a + (k + 1) := by omega
                have hq5 : a + (k + 1) - a = k + 1 := by omega
                have hwr : IntKind.i64.wrap ((a : Int) + ((k : Int) + 1)) = (a : Int) + ((k : Int) + 1) := IntWalk.i64_in _ (by omega)
                obtain ⟨hm0, hm5, hsm⟩ := seg_sum HOB.out (a := a) (m := k + 1) (by rw [HOL.out]; exact ham) (by rw [HOL.out]; exact hl5)
                have HSM := Lib.hid hsm
                have HSL := Lib.hid (segI_len (O := O) (a := a) (m := k + 1) (by rw [HOL.out]; exact ham)).symm
                clear hsm
                have hz : (((k + 1 : Nat) : Int) == (k : Int) + 1) = true := by simp
                go_wp2_with fail
                refine wp_region_grow 13 1 (· < 13) (by kernel_rfl) (by kernel_rfl) rfl ?_
                iterate 13 (refine wpG_step (fun K hK => ?_); first | (refine grow_skip rfl ?_; go_simp; refine hK _ ?_; clear hK K) | (apply Exists.intro; refine ⟨.inl ⟨rfl, fun w' hw' => ?_⟩, ?_⟩; (focus ((obtain ⟨hc, hf⟩ := bcell hw'.out); (have hcS := bcellS hw'.out); go_simp <;> first | rfl | (go_at_call 73; exact total_b _ _ (k + 1) (segI O a (k + 1)) _ ((HO.out.keep (bkeep2 (balloc (Below.refl _ _)) (bdrewn hw'.out))).seg a (k + 1)) HSL.out (by omega) HSM.out))); (go_simp; refine hK _ ?_; clear hK K)))
                refine wpG_nil ?_
                refine wpK_tail (by kernel_rfl) (fun w3 hg3 => ?_)
                have hb3 := bdrewn hg3.out
                obtain ⟨hc3, hf3⟩ := bcell hb3
                refine wpAny_one (i := 13) (by kernel_rfl) rfl rfl ?_
                go_simp
                refine wpAny_end (by kernel_rfl) ?_
                refine NoPan.thn ?_
                clear hc3 hf3
                clear hg3
                have hx : w3.heap[wr.heap.size]? = some (.cells #[.int .i64 (a : Int), .int .i64 ((k : Int) + 1), .int .i64 need] 161 (0, 0)) := (hb3.block _ (by simp)).trans (newS _ _)
                have hgb : g < wr.heap.size := HO.out.lt
                have HO3 := Lib.hid (HO.out.keep (bkeep2 (balloc (Below.refl _ _)) hb3))
                have HB3 := Lib.hid (bkeep2 (balloc HB.out) hb3)
                have hxl := ltS hx
                obtain ⟨x0, x1, x2⟩ : w3.cell? ⟨wr.heap.size, 0, none⟩ = some (.int .i64 (a : Int)) ∧ w3.cell? ⟨wr.heap.size, 1, none⟩ = some (.int .i64 ((k : Int) + 1)) ∧ w3.cell? ⟨wr.heap.size, 2, none⟩ = some (.int .i64 need) := ⟨cellI hx 0, cellI hx 1, cellI hx 2⟩
                have HX := Lib.hid hx
                obtain ⟨q, hqe⟩ : ∃ q, sumI (segI O a (k + 1)) = q := ⟨_, rfl⟩
                rw [hqe] at hm0 hm5
                rw [hqe]
                have HQ := Lib.hid hqe
                have hqw : IntKind.i64.wrap (need - q) = need - q := IntWalk.i64_in _ (by omega)
                have hsok := seg_ok (a := a) (m := k + 1) HWW.out (by omega) (by rw [List.length_map]; exact ham)
                have HSK := Lib.hid hsok
                clear HO HB hb3 hx hqe c0 c1 c2 hsok
                generalize wr.heap.size = bx at *
                by_cases hqn : need - q ≤ 0
                · have hd3 : decide (need - q ≤ 0) = true := by simpa using hqn
                  have hst : stepM (L.map Ln.wt) O ⟨(a : Int), ((k + 1 : Nat) : Int), need⟩ = O := step_none (by simpa using HSK.out) (by show need - sumI (segI O a (k + 1)) ≤ 0; rw [HQ.out]; exact hqn)
                  have HST := Lib.hid hst
                  clear hst
                  go_wp2
                  go_roundw
                  case rel => exact ⟨j + 1, by omega, by go_num, by rw [HRO.out, if_pos (by simp), HST.out]; exact HO3.out, HB3.out⟩
                  case measure => simp [intOf]; omega
                · have hd3 : decide (need - q ≤ 0) = false := by simpa using hqn
                  have hl2 : k + 1 = ((L.drop a).take (k + 1)).length := by rw [List.length_take, List.length_drop]; omega
                  have HL2 := Lib.hid hl2
                  clear hl2
                  go_wp2_with fail
                  refine (weightsOf_v _ _ (k + 1) ((L.drop a).take (k + 1)) _ ((LnV.sub hbl HPL.out a (k + 1)).keep (HB3.out)) HL2.out (by rw [← HL2.out]; omega)).mono ?_
                  rintro e w4 ⟨⟨A2, c2, rfl, hn4⟩, hb4⟩
                  rw [seg_map] at hn4
                  have HN4 := Lib.hid hn4
                  have HO4 := Lib.hid (HO3.out.keep hb4)
                  have HB4 := Lib.hid (bkeep2 HB3.out hb4)
                  have HX4 := Lib.hid ((hb4.block _ hxl).trans HX.out)
                  have hsz4 := hb4.size
                  clear hn4 hb4 HO3 HB3 HX x0 x1 x2
                  go_wp2_with fail
                  refine (sspread_n A2 c2 (k + 1) (need - q) (segI (L.map Ln.wt) a (k + 1)) _ HN4.out (segI_len (by rw [List.length_map]; exact ham)).symm HSK.out (by omega) (by omega)).mono ?_
                  rintro e w5 ⟨rfl, hi5, hb5⟩
                  have HP := Lib.hid hi5
                  have HO5 := Lib.hid (HO4.out.keep hb5)
                  have HB5 := Lib.hid (bkeep2 HB4.out hb5)
                  have HX5 := Lib.hid ((hb5.block _ (Nat.lt_of_lt_of_le hxl hsz4)).trans HX4.out)
                  have hgp : g < w4.heap.size := HO4.out.lt
                  have hxp : bx < w4.heap.size := Nat.lt_of_lt_of_le hxl hsz4
                  have HPB := Lib.hid (spread_pos (n := need - q) (by omega) HSK.out)
                  have hpl : (spreadM (need - q) (segI (L.map Ln.wt) a (k + 1))).length = k + 1 := by rw [spreadM_len, segI_len (by rw [List.length_map]; exact ham)]
                  have hst : stepM (L.map Ln.wt) O ⟨(a : Int), ((k + 1 : Nat) : Int), need⟩ = addAt O a (spreadM (need - q) (segI (L.map Ln.wt) a (k + 1))) := by
                    unfold stepM
                    have hm : mx (need - sumI (segI O a (k + 1))) 0 = need - q := by rw [HQ.out]; have := mx_spec (need - q) 0; omega
                    show addAt O a (spreadM (mx (need - sumI (segI O a (k + 1))) 0) (segI (L.map Ln.wt) a (k + 1))) = _
                    rw [hm]
                  have HST := Lib.hid hst
                  clear hi5 hb5 HO4 HB4 HX4 HN4 hst
                  generalize w4.heap.size = gp at *
                  generalize spreadM (need - q) (segI (L.map Ln.wt) a (k + 1)) = P at *
                  have HPL2 := Lib.hid hpl
                  clear hpl
                  go_wp2_with fail
                  go_loopw [12] (fun i wr' => ∃ i' : Nat, i' ≤ k + 1 ∧ i = .int .i64 i' ∧ OB wr' g cap (addAt O a (P.take i')) ∧ w5.grownBy wr' (some g)) (fun i _ => k + 1 - (intOf i).toNat)
                  case atStart => exact ⟨0, by omega, rfl, by rw [List.take_zero, addAt_nil]; exact HO5.out, greflI _ _⟩
                  case round =>
                    obtain ⟨i, hi, rfl, hOr, hgr⟩ := hrel
                    clear HO5
                    by_cases hil : i < k + 1
                    · have hd4 : decide ((i : Int) < (k : Int) + 1) = true := by simp; omega
                      have hki : i < P.length := by have := HPL2.out; omega
                      have hgq : P[i]? = some P[i] := List.getElem?_eq_getElem hki
                      have hpb := HPB.out _ (List.getElem_mem hki)
                      have hko : a + i < O.length := by have := HOL.out; omega
                      have hgo : O[a + i]? = some O[a + i] := List.getElem?_eq_getElem hko
                      have hob := HOB.out _ (List.getElem_mem hko)
                      have hal3 : a + i < (addAt O a (P.take i)).length := by rw [addAt_len]; exact hko
                      generalize P[i] = p at *
                      generalize O[a + i] = o at *
                      obtain ⟨hp0, hp1⟩ := hpb
                      obtain ⟨ho0, ho1⟩ := hob
                      have hxw := ltS HX5.out
                      have p0 := (HP.out.but hgr (by omega)).cell hgq
                      have d0 := hOr.cell (addAt_get hgo (P := P.take i) (by rw [List.length_take]; omega))
                      have hxr := (hgr.block bx hxw (fun e => by have := Option.some.inj e; omega)).trans HX5.out
                      have x0 := cellI hxr 0
                      have hs1 := ltS hxr
                      have hs2 := (HP.out.but hgr (by omega)).lt
                      have hs3 := hOr.lt
                      have hr1 : 0 ≤ (a : Int) + (i : Int) := by omega
                      have hr2 : (a : Int) + (i : Int) < (L.length : Int) := by omega
                      have hri : (i : Int) < (k : Int) + 1 := by omega
                      have hr3 : ((a : Int) + (i : Int)).toNat = a + i := by omega
                      have hwr2 : IntKind.i64.wrap ((a : Int) + (i : Int)) = (a : Int) + (i : Int) := IntWalk.i64_in _ (by omega)
                      have hwr3 : IntKind.i64.wrap (o + p) = o + p := IntWalk.i64_in _ (by omega)
                      have HO6 := Lib.hid hOr
                      have HG6 := Lib.hid hgr
                      have HAS := Lib.hid (addAt_snoc hgo hgq)
                      clear hOr hgr hxr hgo hgq hwr
                      go_wp2_with fail
                      refine wp_region_grow 18 1 (· < 18) (by kernel_rfl) (by kernel_rfl) rfl ?_
                      iterate 18 (refine wpG_step (fun K hK => ?_); first | (refine grow_skip rfl ?_; go_simp; refine hK _ ?_; clear hK K) | (apply Exists.intro; refine ⟨.inl ⟨rfl, fun w' hw' => ?_⟩, ?_⟩; (focus ((obtain ⟨hc, hf⟩ := bcell hw'.out); (have hcS := bcellS hw'.out); go_simp <;> rfl)); (go_simp; refine hK _ ?_; clear hK K)))
                      refine wpG_nil ?_
                      refine wpK_tail (by kernel_rfl) (fun w7 hg7 => ?_)
                      have hb7 := bdrewn hg7.out
                      have HO7 := Lib.hid (HO6.out.keep hb7)
                      have HB7 := hb7
                      have c7 := (hb7.cell (p := ⟨g, a + i, none⟩) hs3).trans d0
                      have f7 := HO7.out.frozen (a + i)
                      have hg7' := grown_below HG6.out hb7
                      have HO8 := HO7.out.set (a + i) (o + p) hal3
                      rw [HAS.out] at HO8
                      have HO8 := Lib.hid HO8
                      have HG8 := Lib.hid (gsetI hg7' (a + i) (.int .i64 (o + p)))
                      clear HB7 hg7'
                      refine wpAny_one (i := 18) (by kernel_rfl) rfl rfl ?_
                      go_simp
                      refine wpAny_end (by kernel_rfl) ?_
                      refine nopan_normal9 ?_
                      clear hb7 hg7
                      go_wp2
                      go_roundw
                      case rel => exact ⟨i + 1, by omega, by go_num, HO8.out, HG8.out⟩
                      case measure => simp [intOf]; omega
                    · have hd4 : decide ((i : Int) < (k : Int) + 1) = false := by simp; omega
                      have hke : P.take i = P := List.take_of_length_le (by have := HPL2.out; omega)
                      rw [hke, ← HST.out] at hOr
                      have HO6 := Lib.hid hOr
                      have HB6 := Lib.hid (below_grown HB5.out hgr hbg HB5.out.size)
                      clear hOr hgr hke
                      go_wp2
                      go_roundw
                      case rel => exact ⟨j + 1, by omega, by go_num, by rw [HRO.out, if_pos (by simp)]; exact HO6.out, HB6.out⟩
                      case measure => simp [intOf]; omega
              · have hz : ((m : Int) == (k : Int) + 1) = false := by simpa using hmk
                rw [if_neg hmk] at hro
                have HRO := Lib.hid hro
                have HB := Lib.hid (balloc (o := (.cells #[.int .i64 (a : Int), .int .i64 (m : Int), .int .i64 need] 161 (0, 0))) HB.out)
                have HO := Lib.hid (HO.out.keep (balloc (o := (.cells #[.int .i64 (a : Int), .int .i64 (m : Int), .int .i64 need] 161 (0, 0))) (Below.refl _ _)))
                clear hro
                go_wp2
                go_roundw
                case rel => exact ⟨j + 1, by omega, by go_num, by rw [HRO.out]; exact HO.out, HB.out⟩
                case measure => simp [intOf]; omega
            · have hd2 : decide ((j : Int) < (S.length : Int)) = false := decide_eq_false (by omega)
              have he : S.take j = S := List.take_of_length_le (by omega)
              rw [he] at hO
              have HO := Lib.hid hO
              have HB := Lib.hid hBr
              clear hO hBr he
              go_wp2
              go_roundw
              case rel => exact ⟨k + 1, by omega, by go_num, HO.out, HB.out⟩
              case measure => simp [intOf]; omega
        · have hd : decide ((k : Int) + 1 ≤ (L.length : Int)) = false := by simp; omega
          obtain rfl : k = L.length := by omega
          have HO := Lib.hid hO
          have HB := Lib.hid hBr
          clear hO hBr
          go_wp2
          go_ret
          exact ⟨⟨g, cap, rfl, hbg, HO.out⟩, HB.out⟩
end Go.Proofs.YtgdkionmeacalaaGreat
end
section
namespace Go.Proofs.YtgdkionmeacalaaGreat
open Go.RowKit
set_option linter.unusedVariables false
set_option maxHeartbeats 1000000
end Go.Proofs.YtgdkionmeacalaaGreat
end
section
namespace Go.Proofs.YtgdkionmeacalaaGreat
set_option linter.unusedVariables false
/-- the weights of the lines that are above their least sizes -/
def wtZ : List Ln → List Int → List Int
  | l :: L, o :: O => (if l.mi < o then l.wt else 0) :: wtZ L O
  | _, _ => []
/-- the sizes, after each line has given its part, as far as it can -/
def takZ : List Ln → List Int → List Int → List Int
  | l :: L, o :: O, p :: P => (o - mn p (o - l.mi)) :: takZ L O P
  | _, O, _ => O
/-- what they have given together -/
def tknZ : List Ln → List Int → List Int → Int
  | l :: L, o :: O, p :: P => mn p (o - l.mi) + tknZ L O P
  | _, _, _ => 0
def shrZ (L : List Ln) (n : Int) (O : List Int) : List Int :=
  if h : 0 < n ∧ sumI (wtZ L O) ≠ 0 ∧ 0 < tknZ L O (spreadM n (wtZ L O)) then shrZ L (n - tknZ L O (spreadM n (wtZ L O))) (takZ L O (spreadM n (wtZ L O))) else O
termination_by n.toNat
decreasing_by omega
/-- none is below its least size, none too great -/
def SOK : List Ln → List Int → Prop
  | l :: L, o :: O => (l.mi ≤ o ∧ o ≤ 1000000) ∧ SOK L O
  | [], [] => True
  | _, _ => False
theorem SOK.len : ∀ {L : List Ln} {O : List Int}, SOK L O → O.length = L.length
  | [], [], _ => rfl
  | l :: L, o :: O, h => by simp [SOK.len h.2]
  | [], o :: O, h => by simp [SOK] at h
  | l :: L, [], h => by simp [SOK] at h
theorem SOK.get : ∀ {L : List Ln} {O : List Int} {i : Nat} {l : Ln} {o : Int}, SOK L O → L[i]? = some l → O[i]? = some o → l.mi ≤ o ∧ o ≤ 1000000
  | l' :: L, o' :: O, 0, l, o, h, hl, ho => by
    simp only [List.getElem?_cons_zero, Option.some.injEq] at hl ho
    subst hl ho
    exact h.1
  | l' :: L, o' :: O, i + 1, l, o, h, hl, ho => by
    simp only [List.getElem?_cons_succ] at hl ho
    exact SOK.get h.2 hl ho
  | [], _, i, l, o, _, hl, _ => by simp at hl
  | _ :: _, [], i, l, o, _, _, ho => by simp at ho
/-- the weights that are left, while the lines go out -/
def WI : List Ln → List Int → List Int → Prop
  | l :: L, o :: O, x :: W => (x = l.wt ∨ (x = 0 ∧ o = l.mi)) ∧ WI L O W
  | [], [], [] => True
  | _, _, _ => False
theorem WI.all : ∀ {L : List Ln} {O : List Int}, O.length = L.length → WI L O (L.map Ln.wt)
  | [], [], _ => by simp [WI]
  | l :: L, o :: O, h => ⟨.inl rfl, WI.all (by simpa using h)⟩
  | [], o :: O, h => by simp at h
  | l :: L, [], h => by simp at h
theorem WI.len : ∀ {L : List Ln} {O W : List Int}, WI L O W → W.length = L.length ∧ O.length = L.length
  | [], [], [], _ => ⟨rfl, rfl⟩
  | l :: L, o :: O, x :: W, h => by have := WI.len h.2; simp; omega
  | [], o :: O, W, h => by simp [WI] at h
  | [], [], x :: W, h => by simp [WI] at h
  | l :: L, [], W, h => by simp [WI] at h
  | l :: L, o :: O, [], h => by simp [WI] at h
/-- the first k are settled -/
def mixW (L : List Ln) (O W : List Int) (k : Nat) : List Int := (wtZ L O).take k ++ W.drop k
theorem WI.get : ∀ {L : List Ln} {O W : List Int} {k : Nat} {l : Ln} {o x : Int}, WI L O W → L[k]? = some l → O[k]? = some o → W[k]? = some x → x = l.wt ∨ (x = 0 ∧ o = l.mi)
  | l' :: L, o' :: O, x' :: W, 0, l, o, x, h, hl, ho, hx => by
    simp only [List.getElem?_cons_zero, Option.some.injEq] at hl ho hx
    subst hl ho hx
    exact h.1
  | l' :: L, o' :: O, x' :: W, k + 1, l, o, x, h, hl, ho, hx => by
    simp only [List.getElem?_cons_succ] at hl ho hx
    exact WI.get h.2 hl ho hx
  | [], _, _, k, l, o, x, _, hl, _, _ => by simp at hl
  | _ :: _, [], _, k, l, o, x, _, _, ho, _ => by simp at ho
  | _ :: _, _ :: _, [], k, l, o, x, _, _, _, hx => by simp at hx
end Go.Proofs.YtgdkionmeacalaaGreat
end
section
namespace Go.Proofs.YtgdkionmeacalaaGreat
open Go.RowKit
set_option linter.unusedVariables false
set_option maxHeartbeats 1000000
attribute [local go_sem 5000] run_mx run_mn
attribute [local go_sem] growUpon_value growUpon_skip growUpon_enter
theorem SOK.each {L : List Ln} {O : List Int} (hL : linesB L = true) (h : SOK L O) {i : Nat} {l : Ln} {o : Int} (hl : L[i]? = some l) (ho : O[i]? = some o) : 0 ≤ l.mi ∧ l.mi ≤ 30 ∧ l.mi ≤ o ∧ o ≤ 1000000 := by
  have h1 := h.get hl ho
  have h2 := hL
  simp only [linesB, Bool.and_eq_true, rng_iff, List.all_eq_true, lineB, wB] at h2
  have h3 := (h2.2 l (List.mem_of_getElem? hl)).2
  omega
end Go.Proofs.YtgdkionmeacalaaGreat
end
section
namespace Go.Proofs.YtgdkionmeacalaaGreat
open Go.RowKit
set_option linter.unusedVariables false
set_option maxHeartbeats 1000000
attribute [local go_sem 5000] run_mx run_mn
attribute [local go_sem] growUpon_value growUpon_skip growUpon_enter
/-- none is below its least size -/
def MI (L : List Ln) (O : List Int) : Prop := ∀ (i : Nat) (l : Ln) (o : Int), L[i]? = some l → O[i]? = some o → l.mi ≤ o
theorem addP_ge : ∀ {O P : List Int} {i : Nat} {o' : Int}, (∀ x ∈ P, 0 ≤ x) → (addP O P)[i]? = some o' → ∃ o, O[i]? = some o ∧ o ≤ o'
  | [], P, i, o', _, h => by simp [addP] at h
  | o :: O, [], i, o', _, h => ⟨o', by simpa [addP] using h, Int.le_refl _⟩
  | o :: O, p :: P, 0, o', hp, h => by
    have := hp p List.mem_cons_self
    simp only [addP, List.getElem?_cons_zero, Option.some.injEq] at h
    exact ⟨o, rfl, by omega⟩
  | o :: O, p :: P, i + 1, o', hp, h => by
    simp only [addP, List.getElem?_cons_succ] at h
    obtain ⟨q, h1, h2⟩ := addP_ge (fun x hx => hp x (List.mem_cons_of_mem _ hx)) h
    exact ⟨q, by simpa using h1, h2⟩
theorem addAt_ge {O P : List Int} {k i : Nat} {o' : Int} (hp : ∀ x ∈ P, 0 ≤ x) (h : (addAt O k P)[i]? = some o') : ∃ o, O[i]? = some o ∧ o ≤ o' := by
  unfold addAt at h
  by_cases hi : i < (O.take k).length
  · rw [List.getElem?_append_left hi] at h
    have h2 : i < k := by rw [List.length_take] at hi; omega
    rw [List.getElem?_take, if_pos h2] at h
    exact ⟨o', h, Int.le_refl _⟩
  · rw [List.getElem?_append_right (by omega)] at h
    obtain ⟨o, h1, h2⟩ := addP_ge hp h
    rw [List.getElem?_drop] at h1
    rw [List.length_take] at h1 hi
    by_cases hk : k ≤ O.length
    · rw [show k + (i - min k O.length) = i from by omega] at h1
      exact ⟨o, h1, h2⟩
    · have := (List.getElem?_eq_some_iff.1 h1).1
      omega
theorem MI.add {L : List Ln} {O P : List Int} {k : Nat} (h : MI L O) (hp : ∀ x ∈ P, 0 ≤ x) : MI L (addAt O k P) := fun i l o hl ho => by
  obtain ⟨o1, h1, h2⟩ := addAt_ge hp ho
  have := h i l o1 hl h1
  omega
theorem MI.step {L : List Ln} {O ws : List Int} {n : Nat} {s : Sp} (h : MI L O) (hw : wsOK ws) (hl : ws.length = n) (hs : spanB n s = true) : MI L (stepM ws O s) := by
  obtain ⟨a, m, e1, e2, h1, h2, h3, h4⟩ := spanB_yes hs
  unfold stepM
  rw [show s.sa.toNat = a from by omega, show s.many.toNat = m from by omega]
  exact h.add (spread_nn (by have := mx_spec (s.need - sumI (segI O a m)) 0; omega) (seg_ok hw h1 (by omega)))
theorem MI.round {L : List Ln} {ws : List Int} {n : Nat} {m : Int} (hw : wsOK ws) (hl : ws.length = n) : ∀ {S : List Sp} {O : List Int}, (∀ s ∈ S, spanB n s = true) → MI L O → MI L (roundM ws m S O)
  | [], O, _, h => h
  | s :: S, O, hs, h => by
    unfold roundM
    rw [List.foldl_cons]
    have hs' : ∀ s ∈ S, spanB n s = true := fun x hx => hs x (List.mem_cons_of_mem _ hx)
    split
    · exact MI.round hw hl hs' (h.step hw hl (hs s List.mem_cons_self))
    · exact MI.round hw hl hs' h
theorem SOK.of : ∀ {L : List Ln} {O : List Int}, O.length = L.length → MI L O → (∀ x ∈ O, x ≤ 1000000) → SOK L O
  | [], [], _, _, _ => trivial
  | l :: L, o :: O, hl, h, hx => ⟨⟨h 0 l o rfl rfl, hx o List.mem_cons_self⟩, SOK.of (by simpa using hl) (fun i l' o' h1 h2 => h (i + 1) l' o' (by simpa using h1) (by simpa using h2)) (fun x hm => hx x (List.mem_cons_of_mem _ hm))⟩
  | [], o :: O, h, _, _ => by simp at h
  | l :: L, [], h, _, _ => by simp at h
/-- the sizes in a room -/
def sizedM (L : List Ln) (S : List Sp) (room : Int) : List Int :=
  if room - sumI (wishM L S) < 0 then shrZ L (-(room - sumI (wishM L S))) (wishM L S)
  else if sumI (L.map Ln.wt) = 0 then wishM L S
  else addAt (wishM L S) 0 (spreadM (room - sumI (wishM L S)) (L.map Ln.wt))
end Go.Proofs.YtgdkionmeacalaaGreat
end
section
namespace Go.Proofs.YtgdkionmeacalaaGreat
open Go.RowKit
set_option linter.unusedVariables false
set_option maxHeartbeats 1000000
attribute [local go_sem 5000] run_mx run_mn
attribute [local go_sem] growUpon_value growUpon_skip growUpon_enter
theorem OB.but {w w' : World} {g h cap : Nat} {L : List Int} (hi : OB w h cap L) (hg : w.grownBy w' (some g)) (hne : h ≠ g) : OB w' h cap L := by
  obtain ⟨hl, cs, hh, hs, hc⟩ := hi
  exact ⟨hl, cs, (hg.block h (ltS hh) (fun e => hne (Option.some.inj e))).trans hh, hs, hc⟩
end Go.Proofs.YtgdkionmeacalaaGreat
end
section
namespace Go.Proofs.YtgdkionmeacalaaGreat
open Go.RowKit
set_option linter.unusedVariables false
set_option maxHeartbeats 1000000
attribute [local go_sem 5000] run_mx run_mn
attribute [local go_sem] growUpon_value growUpon_skip growUpon_enter
def sizedO (L : List Ln) (O : List Int) (room : Int) : List Int :=
  if room - sumI O < 0 then shrZ L (-(room - sumI O)) O
  else if sumI (L.map Ln.wt) = 0 then O
  else addAt O 0 (spreadM (room - sumI O) (L.map Ln.wt))
end Go.Proofs.YtgdkionmeacalaaGreat
end
section
namespace Go.Proofs.YtgdkionmeacalaaGreat
open Go.RowKit
set_option linter.unusedVariables false
set_option maxHeartbeats 1000000
attribute [local go_sem] growUpon_value growUpon_skip growUpon_enter
def spvalsN : List Sp → List Value
  | [] => []
  | r :: t => valsSp r ++ spvalsN t
theorem spvalsN_append (A B : List Sp) : spvalsN (A ++ B) = spvalsN A ++ spvalsN B := by
  induction A with
  | nil => rfl
  | cons r t ih => simp [spvalsN, ih]
theorem spvalsN_succ {M : List Sp} {k : Nat} {r : Sp} (h : M[k]? = some r) : spvalsN (M.take k) ++ valsSp r = spvalsN (M.take (k + 1)) := by
  rw [List.take_add_one, h, Option.toList, spvalsN_append]; simp [spvalsN]
theorem spvalsN_get : ∀ {M : List Sp} {i : Nat} {r : Sp}, M[i]? = some r → ∀ j, j < 3 → (spvalsN M)[i * 3 + j]? = (valsSp r)[j]?
  | [], i, r, h, _, _ => by simp at h
  | q :: t, 0, r, h, j, hj => by
    simp at h; subst h
    show (valsSp q ++ spvalsN t)[0 * 3 + j]? = _
    rw [List.getElem?_append_left (by simp [valsSp]; omega)]; simp
  | q :: t, i + 1, r, h, j, hj => by
    show (valsSp q ++ spvalsN t)[(i + 1) * 3 + j]? = _
    rw [List.getElem?_append_right (by simp [valsSp]; omega)]
    have := spvalsN_get (M := t) (i := i) (r := r) (by simpa using h) j hj
    rw [← this]; congr 1; simp [valsSp]; omega
/-- the value reads as the list -/
def SpR (w : World) (v : Value) (L : List Sp) : Prop := ∃ A c, v = .slice A L.length c ∧ SpV w A L
theorem SpR.keep {w w' : World} {v : Value} {L : List Sp} (h : SpR w v L) (hb : Below w.heap.size w w') : SpR w' v L := let ⟨A, c, e, n⟩ := h; ⟨A, c, e, n.keep hb⟩
theorem SpR.own {w : World} {base n : Nat} {v : Value} {M : List Sp} {T : TypeId} (h : w.ownsRow base T 3 v n (spvalsN M)) (hn : n = M.length) : SpR w v M := by
  subst hn
  have hl := h.lt
  have hc := fun g hg => h.cells (g := g) hg
  rcases h.2 with ⟨rfl, h0⟩ | ⟨g, cap, cur, rfl, _⟩
  · exact ⟨none, 0, by rw [h0], ⟨fun h => absurd h (by omega)⟩⟩
  · refine ⟨_, cap, rfl, ⟨fun _ => ⟨g, 0, rfl, (hl g rfl).2, fun i r hr => ?_⟩⟩⟩
    have e : ∀ j, j < 3 → ∀ u, (valsSp r)[j]? = some u → w.cell? ⟨g, 0 + i * 3 + j, none⟩ = some u := fun j hj u hu => by
      have h1 := hc g rfl (i * 3 + j) u ((spvalsN_get hr j hj).trans hu)
      have hadd : (⟨g, 0, none⟩ : Addr).add (i * 3 + j) = ⟨g, i * 3 + j, none⟩ := by unfold Addr.add; split <;> simp_all
      rw [hadd] at h1
      rwa [Nat.zero_add]
    exact ⟨e 0 (by omega) _ rfl, e 1 (by omega) _ rfl, e 2 (by omega) _ rfl⟩
theorem span_infoN : ∃ (i : TypeInfo) (z : Value), Tryz.prog.info? 161 = some i ∧ i.zero = some z ∧ i.size = 3 ∧ i.bytes = 24 ∧ z.cells.size = 3 := by
  have hinfo : (Tryz.prog.info? 161).map (fun i => (i.zero, i.size, i.bytes)) = some (some (.agg #[.int .i64 0, .int .i64 0, .int .i64 0]), 3, 24) := by kernel_rfl
  obtain ⟨i, hi, h1, h2, h3⟩ := info_parts hinfo
  exact ⟨i, _, hi, h1, h2, h3, rfl⟩
theorem newSp3 (W : World) (r : Sp) (T : TypeId) : ∀ (j : Nat) (u : Value), (valsSp r)[j]? = some u → (W.alloc (.cells #[.int .i64 r.sa, .int .i64 r.many, .int .i64 r.need] T)).cell? ((⟨W.heap.size, 0, none⟩ : Addr).add j) = some u := fun j u h => by
  have hadd : (⟨W.heap.size, 0, none⟩ : Addr).add j = ⟨W.heap.size, j, none⟩ := by unfold Addr.add; split <;> simp_all
  rw [hadd]
  exact (cellS (newS W _) j).trans (by simpa [valsSp] using h)
theorem valsSp_one (r : Sp) : ∀ u ∈ valsSp r, u.oneCell' = true := by intro u hu; simp [valsSp] at hu; rcases hu with rfl | rfl | rfl <;> rfl
theorem own_belowN {w w' : World} {base : Nat} {e : TypeId} {size : Nat} {v : Value} {n : Nat} {xs : List Value} (h : w.ownsRow base e size v n xs) (hb : Below w.heap.size w w') : w'.ownsRow base e size v n xs :=
  h.kept (row := none) ⟨hb.os, hb.tape, hb.output, hb.size, fun k hk _ => hb.block k hk⟩ (by cases v.ownBlock <;> simp)
set_option maxRecDepth 100000 in
theorem colSpans_w (A1 A2 A3 : Option Addr) (c1 n1 c2 n2 c3 : Nat) (L : List Ce) (w : World) (h : CeV w A3 L) (hL : L.length ≤ 10) (hsm : ∀ p ∈ L, smW p) :
    Calls Tryz.prog 75 #[.agg #[.slice A1 n1 c1, .slice A2 n2 c2, .slice A3 L.length c3]] w fun e w' => (∃ v, e = .returned v ∧ SpR w' v (L.map acM)) ∧ Below w.heap.size w w' := by
  obtain ⟨ti, tz, ti1, ti2, ti3, ti4, ti5⟩ := span_infoN
  have HSM := Lib.hid hsm
  clear hsm
  have ho0 := World.ownsRow_lit (base := (w.alloc (.cells #[.slice A1 n1 c1, .slice A2 n2 c2, .slice A3 L.length c3] 92 (0, 0))).heap.size) (e := 161) (size := 3) (w.alloc (.cells #[.slice A1 n1 c1, .slice A2 n2 c2, .slice A3 L.length c3] 92 (0, 0))) #[] 0 (Nat.le_refl _) (by decide) rfl
  rw [World.size_alloc] at ho0
  have HO := Lib.hid (show ((w.alloc (.cells #[.slice A1 n1 c1, .slice A2 n2 c2, .slice A3 L.length c3] 92 (0, 0))).alloc (.cells #[] 161 (0, 0))).ownsRow (w.heap.size + 1) 161 3 (.slice (some ⟨w.heap.size + 1, 0, none⟩) 0 0) 0 (spvalsN []) from ho0)
  have HG := Lib.hid ((Below.heap_alloc (w.alloc (.cells #[.slice A1 n1 c1, .slice A2 n2 c2, .slice A3 L.length c3] 92 (0, 0))) (.cells #[] 161 (0, 0)) w.heap.size (by simp)).trans (newS w (.cells #[.slice A1 n1 c1, .slice A2 n2 c2, .slice A3 L.length c3] 92 (0, 0))))
  have HB := Lib.hid (balloc (o := (.cells #[] 161 (0, 0))) (balloc (o := (.cells #[.slice A1 n1 c1, .slice A2 n2 c2, .slice A3 L.length c3] 92 (0, 0))) (Below.refl w.heap.size w)))
  clear ho0
  go_enter Tryz.func75, Tryz.ntmps75
  go_wp2_with fail
  go_loopw [3, 4] (fun out i wr => ∃ k : Nat, k ≤ L.length ∧ i = .int .i64 k ∧ wr.ownsRow (w.heap.size + 1) 161 3 out k (spvalsN ((L.map acM).take k)) ∧ wr.heap[w.heap.size]? = some (.cells #[.slice A1 n1 c1, .slice A2 n2 c2, .slice A3 L.length c3] 92 (0, 0)) ∧ Below w.heap.size w wr) (fun _ i _ => L.length - (intOf i).toNat)
  case atStart => exact ⟨0, by omega, rfl, HO.out, HG.out, HB.out⟩
  case round =>
    obtain ⟨k, hk, rfl, ho, hg, hB⟩ := hrel
    clear HO HB HG
    have g2 := cellS hg 2
    by_cases hlt : k < L.length
    · have hd : decide ((k : Int) < (L.length : Int)) = true := by simpa using hlt
      obtain ⟨b, off, rfl, hb, hp⟩ := (h.keep hB).cells (by omega)
      have hget : L[k]? = some L[k] := List.getElem?_eq_getElem hlt
      obtain ⟨d0, d1, d2, d3, d4, d5, d6, d7, d8⟩ := hp k _ hget
      have hsk : smW L[k] := HSM.out _ (List.getElem_mem hlt)
      generalize hx : L[k] = p at *
      have HTS := Lib.hid (spvalsN_succ (show (L.map acM)[k]? = some (acM p) by rw [List.getElem?_map, hget]; rfl))
      have hob := ho.lt
      have HO := Lib.hid ho
      have HB := Lib.hid hB
      have HG := Lib.hid hg
      clear ho hB hg hp hget hx
      go_upto_region 6 with (fail)
      refine wp_genGG (fun W => W.heap[wr.heap.size]? = some (.cells #[.int .i64 p.co, .int .i64 p.ro, .int .i64 p.mc, .int .i64 p.mr, .int .i64 p.cw, .int .i64 p.ch, .int .i64 p.sk, .int .i64 p.px, .int .i64 p.py] 81 (0, 0)) ∧ Below wr.heap.size wr W) ⟨newS _ _, balloc (Below.refl _ _)⟩ (fun W h0 => ?_)
      clear d0 d1 d2 d3 d4 d5 d6 d7 d8 g2
      obtain ⟨hx, hbW⟩ := h0
      have x0 := cellS hx 0
      have x1 := cellS hx 2
      have x2 := cellS hx 4
      have x3 := cellS hx 7
      have hlg := ltS HG.out
      have hsW := hbW.size
      replace HO := Lib.hid (own_belowN HO.out hbW)
      replace HG := Lib.hid ((hbW.block _ hlg).trans HG.out)
      replace HB := Lib.hid (bkeep2 HB.out hbW)
      obtain ⟨⟨b1, b2⟩, ⟨b3, b4⟩, ⟨b5, b6⟩, ⟨b7, b8⟩⟩ := hsk
      clear hx hbW
      go_wp2_with (at_builtin; refine wpList_append_own _ rfl _ _ 117 rfl (w.heap.size + 1) 161 ti tz 3 24 Tryz.underlying117 ti1 ti2 ti3 ti4 ti5 (by decide) _ _ _ rfl (HO.out.alloc _) ⟨W.heap.size, 0, none⟩ 1 1 (valsSp (acM p)) rfl rfl (newSp3 _ (acM p) _) (valsSp_one _) (by simp only [maxLen]; omega) (by omega) (by simp; omega) ?_)
      intro v5 w5 how5 hgr5 _
      rw [HTS.out] at how5
      have hg5 := (hgr5.block w.heap.size (by simp; omega) (fun e => by have := hob _ e.symm; omega)).trans ((Below.heap_alloc _ _ _ (by omega)).trans HG.out)
      replace HB := Lib.hid (below_own HB.out hgr5 hob (by omega) (Nat.le_refl _))
      replace HO := Lib.hid how5
      replace HG := Lib.hid hg5
      clear how5 hgr5 hob x0 x1 x2 x3 hg5
      go_wp2
      go_roundw
      case rel => exact ⟨k + 1, by omega, by go_num, by simpa using HO.out, HG.out, HB.out⟩
      case measure => simp [intOf]; omega
    · have hd : decide ((k : Int) < (L.length : Int)) = false := decide_eq_false (by omega)
      obtain rfl : k = L.length := by omega
      have he : (L.map acM).take L.length = L.map acM := List.take_of_length_le (by simp)
      rw [he] at ho
      have HR := Lib.hid (SpR.own ho (by simp))
      have HB := Lib.hid hB
      clear ho hB he hg
      go_wp2
      go_ret
      exact ⟨⟨_, rfl, HR.out⟩, HB.out⟩
set_option maxRecDepth 100000 in
theorem rowSpans_w (A1 A2 A3 : Option Addr) (c1 n1 c2 n2 c3 : Nat) (L : List Ce) (w : World) (h : CeV w A3 L) (hL : L.length ≤ 10) (hsm : ∀ p ∈ L, smW p) :
    Calls Tryz.prog 76 #[.agg #[.slice A1 n1 c1, .slice A2 n2 c2, .slice A3 L.length c3]] w fun e w' => (∃ v, e = .returned v ∧ SpR w' v (L.map dnM)) ∧ Below w.heap.size w w' := by
  obtain ⟨ti, tz, ti1, ti2, ti3, ti4, ti5⟩ := span_infoN
  have HSM := Lib.hid hsm
  clear hsm
  have ho0 := World.ownsRow_lit (base := (w.alloc (.cells #[.slice A1 n1 c1, .slice A2 n2 c2, .slice A3 L.length c3] 92 (0, 0))).heap.size) (e := 161) (size := 3) (w.alloc (.cells #[.slice A1 n1 c1, .slice A2 n2 c2, .slice A3 L.length c3] 92 (0, 0))) #[] 0 (Nat.le_refl _) (by decide) rfl
  rw [World.size_alloc] at ho0
  have HO := Lib.hid (show ((w.alloc (.cells #[.slice A1 n1 c1, .slice A2 n2 c2, .slice A3 L.length c3] 92 (0, 0))).alloc (.cells #[] 161 (0, 0))).ownsRow (w.heap.size + 1) 161 3 (.slice (some ⟨w.heap.size + 1, 0, none⟩) 0 0) 0 (spvalsN []) from ho0)
  have HG := Lib.hid ((Below.heap_alloc (w.alloc (.cells #[.slice A1 n1 c1, .slice A2 n2 c2, .slice A3 L.length c3] 92 (0, 0))) (.cells #[] 161 (0, 0)) w.heap.size (by simp)).trans (newS w (.cells #[.slice A1 n1 c1, .slice A2 n2 c2, .slice A3 L.length c3] 92 (0, 0))))
  have HB := Lib.hid (balloc (o := (.cells #[] 161 (0, 0))) (balloc (o := (.cells #[.slice A1 n1 c1, .slice A2 n2 c2, .slice A3 L.length c3] 92 (0, 0))) (Below.refl w.heap.size w)))
  clear ho0
  go_enter Tryz.func76, Tryz.ntmps76
  go_wp2_with fail
  go_loopw [3, 4] (fun out i wr => ∃ k : Nat, k ≤ L.length ∧ i = .int .i64 k ∧ wr.ownsRow (w.heap.size + 1) 161 3 out k (spvalsN ((L.map dnM).take k)) ∧ wr.heap[w.heap.size]? = some (.cells #[.slice A1 n1 c1, .slice A2 n2 c2, .slice A3 L.length c3] 92 (0, 0)) ∧ Below w.heap.size w wr) (fun _ i _ => L.length - (intOf i).toNat)
  case atStart => exact ⟨0, by omega, rfl, HO.out, HG.out, HB.out⟩
  case round =>
    obtain ⟨k, hk, rfl, ho, hg, hB⟩ := hrel
    clear HO HB HG
    have g2 := cellS hg 2
    by_cases hlt : k < L.length
    · have hd : decide ((k : Int) < (L.length : Int)) = true := by simpa using hlt
      obtain ⟨b, off, rfl, hb, hp⟩ := (h.keep hB).cells (by omega)
      have hget : L[k]? = some L[k] := List.getElem?_eq_getElem hlt
      obtain ⟨d0, d1, d2, d3, d4, d5, d6, d7, d8⟩ := hp k _ hget
      have hsk : smW L[k] := HSM.out _ (List.getElem_mem hlt)
      generalize hx : L[k] = p at *
      have HTS := Lib.hid (spvalsN_succ (show (L.map dnM)[k]? = some (dnM p) by rw [List.getElem?_map, hget]; rfl))
      have hob := ho.lt
      have HO := Lib.hid ho
      have HB := Lib.hid hB
      have HG := Lib.hid hg
      clear ho hB hg hp hget hx
      go_upto_region 6 with (fail)
      refine wp_genGG (fun W => W.heap[wr.heap.size]? = some (.cells #[.int .i64 p.co, .int .i64 p.ro, .int .i64 p.mc, .int .i64 p.mr, .int .i64 p.cw, .int .i64 p.ch, .int .i64 p.sk, .int .i64 p.px, .int .i64 p.py] 81 (0, 0)) ∧ Below wr.heap.size wr W) ⟨newS _ _, balloc (Below.refl _ _)⟩ (fun W h0 => ?_)
      clear d0 d1 d2 d3 d4 d5 d6 d7 d8 g2
      obtain ⟨hx, hbW⟩ := h0
      have x0 := cellS hx 1
      have x1 := cellS hx 3
      have x2 := cellS hx 5
      have x3 := cellS hx 8
      have hlg := ltS HG.out
      have hsW := hbW.size
      replace HO := Lib.hid (own_belowN HO.out hbW)
      replace HG := Lib.hid ((hbW.block _ hlg).trans HG.out)
      replace HB := Lib.hid (bkeep2 HB.out hbW)
      obtain ⟨⟨b1, b2⟩, ⟨b3, b4⟩, ⟨b5, b6⟩, ⟨b7, b8⟩⟩ := hsk
      clear hx hbW
      go_wp2_with (at_builtin; refine wpList_append_own _ rfl _ _ 117 rfl (w.heap.size + 1) 161 ti tz 3 24 Tryz.underlying117 ti1 ti2 ti3 ti4 ti5 (by decide) _ _ _ rfl (HO.out.alloc _) ⟨W.heap.size, 0, none⟩ 1 1 (valsSp (dnM p)) rfl rfl (newSp3 _ (dnM p) _) (valsSp_one _) (by simp only [maxLen]; omega) (by omega) (by simp; omega) ?_)
      intro v5 w5 how5 hgr5 _
      rw [HTS.out] at how5
      have hg5 := (hgr5.block w.heap.size (by simp; omega) (fun e => by have := hob _ e.symm; omega)).trans ((Below.heap_alloc _ _ _ (by omega)).trans HG.out)
      replace HB := Lib.hid (below_own HB.out hgr5 hob (by omega) (Nat.le_refl _))
      replace HO := Lib.hid how5
      replace HG := Lib.hid hg5
      clear how5 hgr5 hob x0 x1 x2 x3 hg5
      go_wp2
      go_roundw
      case rel => exact ⟨k + 1, by omega, by go_num, by simpa using HO.out, HG.out, HB.out⟩
      case measure => simp [intOf]; omega
    · have hd : decide ((k : Int) < (L.length : Int)) = false := decide_eq_false (by omega)
      obtain rfl : k = L.length := by omega
      have he : (L.map dnM).take L.length = L.map dnM := List.take_of_length_le (by simp)
      rw [he] at ho
      have HR := Lib.hid (SpR.own ho (by simp))
      have HB := Lib.hid hB
      clear ho hB he hg
      go_wp2
      go_ret
      exact ⟨⟨_, rfl, HR.out⟩, HB.out⟩
end Go.Proofs.YtgdkionmeacalaaGreat
end
