import Derived.Test.YtgdkionmeacalaaGreatQ04
import Derived.RangeFuncNested
import Derived.RangeFuncBound
import Derived.RangeFuncCalls
import Derived.RangeFuncLeaves
import Derived.Shelf.Abstract
import Derived.Shelf.RegionOpen
import Derived.WalkKit
import Derived.OwnWalkIn
import Derived.TacticsInMore
import Derived.LoopNIn
import Derived.LoopIn
section
namespace Go.Proofs.YtgdkionmeacalaaGreat
open Go.RowKit
set_option linter.unusedVariables false
set_option maxHeartbeats 2000000
attribute [local go_sem] growUpon_value growUpon_skip growUpon_enter
set_option maxRecDepth 100000 in
theorem eqNode_same (n : Nd) (ca : Option Addr) (cc : Nat) (ra : Option Addr) (rc : Nat) (da : Option Addr) (dc : Nat) (sa : Option Addr) (sc : Nat) (w : World) (h1 : LnV w ca n.cs) (h2 : LnV w ra n.rs) (k1 : LnV w da n.cs) (k2 : LnV w sa n.rs) (m1 : n.cs.length ≤ 1048576) (m2 : n.rs.length ≤ 1048576) :
    Calls Tryz.prog 60 #[.agg (valsNr ⟨n, ca, cc, ra, rc⟩).toArray, .agg (valsNr ⟨n, da, dc, sa, sc⟩).toArray] w fun e w' => e = .returned (.bool true) ∧ Below w.heap.size w w' := by
  have hB0 : Below w.heap.size w ((w.alloc (.cells (valsNr ⟨n, ca, cc, ra, rc⟩).toArray 84 (0, 0))).alloc (.cells (valsNr ⟨n, da, dc, sa, sc⟩).toArray 84 (0, 0))) := balloc (balloc (Below.refl _ _))
  have HX := Lib.hid ((Below.heap_alloc _ (.cells (valsNr ⟨n, da, dc, sa, sc⟩).toArray 84 (0, 0)) w.heap.size (by simp)).trans (newS w (.cells (valsNr ⟨n, ca, cc, ra, rc⟩).toArray 84 (0, 0))))
  have HY := Lib.hid (newS1T w (.cells (valsNr ⟨n, ca, cc, ra, rc⟩).toArray 84 (0, 0)) (.cells (valsNr ⟨n, da, dc, sa, sc⟩).toArray 84 (0, 0)))
  have HV1 := Lib.hid (h1.keep hB0)
  have HV2 := Lib.hid (h2.keep hB0)
  have HK1 := Lib.hid (k1.keep hB0)
  have HK2 := Lib.hid (k2.keep hB0)
  have HB := Lib.hid hB0
  clear hB0 h1 h2 k1 k2
  have x0 : ((w.alloc (.cells (valsNr ⟨n, ca, cc, ra, rc⟩).toArray 84 (0, 0))).alloc (.cells (valsNr ⟨n, da, dc, sa, sc⟩).toArray 84 (0, 0))).cell? ⟨w.heap.size, 0, none⟩ = some (.int .i64 n.pa) := cellS HX.out 0
  have y0 : ((w.alloc (.cells (valsNr ⟨n, ca, cc, ra, rc⟩).toArray 84 (0, 0))).alloc (.cells (valsNr ⟨n, da, dc, sa, sc⟩).toArray 84 (0, 0))).cell? ⟨w.heap.size + 1, 0, none⟩ = some (.int .i64 n.pa) := cellS HY.out 0
  have x1 : ((w.alloc (.cells (valsNr ⟨n, ca, cc, ra, rc⟩).toArray 84 (0, 0))).alloc (.cells (valsNr ⟨n, da, dc, sa, sc⟩).toArray 84 (0, 0))).cell? ⟨w.heap.size, 1, none⟩ = some (.int .i64 n.ww) := cellS HX.out 1
  have y1 : ((w.alloc (.cells (valsNr ⟨n, ca, cc, ra, rc⟩).toArray 84 (0, 0))).alloc (.cells (valsNr ⟨n, da, dc, sa, sc⟩).toArray 84 (0, 0))).cell? ⟨w.heap.size + 1, 1, none⟩ = some (.int .i64 n.ww) := cellS HY.out 1
  have x2 : ((w.alloc (.cells (valsNr ⟨n, ca, cc, ra, rc⟩).toArray 84 (0, 0))).alloc (.cells (valsNr ⟨n, da, dc, sa, sc⟩).toArray 84 (0, 0))).cell? ⟨w.heap.size, 2, none⟩ = some (.int .i64 n.hh) := cellS HX.out 2
  have y2 : ((w.alloc (.cells (valsNr ⟨n, ca, cc, ra, rc⟩).toArray 84 (0, 0))).alloc (.cells (valsNr ⟨n, da, dc, sa, sc⟩).toArray 84 (0, 0))).cell? ⟨w.heap.size + 1, 2, none⟩ = some (.int .i64 n.hh) := cellS HY.out 2
  have x3 : ((w.alloc (.cells (valsNr ⟨n, ca, cc, ra, rc⟩).toArray 84 (0, 0))).alloc (.cells (valsNr ⟨n, da, dc, sa, sc⟩).toArray 84 (0, 0))).cell? ⟨w.heap.size, 3, none⟩ = some (.bool n.ke) := cellS HX.out 3
  have y3 : ((w.alloc (.cells (valsNr ⟨n, ca, cc, ra, rc⟩).toArray 84 (0, 0))).alloc (.cells (valsNr ⟨n, da, dc, sa, sc⟩).toArray 84 (0, 0))).cell? ⟨w.heap.size + 1, 3, none⟩ = some (.bool n.ke) := cellS HY.out 3
  have x4 : ((w.alloc (.cells (valsNr ⟨n, ca, cc, ra, rc⟩).toArray 84 (0, 0))).alloc (.cells (valsNr ⟨n, da, dc, sa, sc⟩).toArray 84 (0, 0))).cell? ⟨w.heap.size, 4, none⟩ = some (.int .i64 n.ki) := cellS HX.out 4
  have y4 : ((w.alloc (.cells (valsNr ⟨n, ca, cc, ra, rc⟩).toArray 84 (0, 0))).alloc (.cells (valsNr ⟨n, da, dc, sa, sc⟩).toArray 84 (0, 0))).cell? ⟨w.heap.size + 1, 4, none⟩ = some (.int .i64 n.ki) := cellS HY.out 4
  have x5 : ((w.alloc (.cells (valsNr ⟨n, ca, cc, ra, rc⟩).toArray 84 (0, 0))).alloc (.cells (valsNr ⟨n, da, dc, sa, sc⟩).toArray 84 (0, 0))).cell? ⟨w.heap.size, 5, none⟩ = some (.slice ca n.cs.length cc) := cellS HX.out 5
  have y5 : ((w.alloc (.cells (valsNr ⟨n, ca, cc, ra, rc⟩).toArray 84 (0, 0))).alloc (.cells (valsNr ⟨n, da, dc, sa, sc⟩).toArray 84 (0, 0))).cell? ⟨w.heap.size + 1, 5, none⟩ = some (.slice da n.cs.length dc) := cellS HY.out 5
  go_enter Tryz.func60, Tryz.ntmps60
  go_wp2_with fail
  with_reducible refine (eqLnS_same ca da cc dc n.cs _ HV1.out HK1.out m1).mono ?_
  rintro e w1 ⟨rfl, hb⟩
  clear x0 y0 x1 y1 x2 y2 x3 y3 x4 y4 x5 y5
  replace HX := Lib.hid ((hb.block _ (Array.getElem?_eq_some_iff.1 HX.out).1).trans HX.out)
  replace HY := Lib.hid ((hb.block _ (Array.getElem?_eq_some_iff.1 HY.out).1).trans HY.out)
  replace HV2 := Lib.hid (HV2.out.keep hb)
  replace HK2 := Lib.hid (HK2.out.keep hb)
  replace HB := Lib.hid (bkeep2 HB.out hb)
  clear hb
  have x6 : w1.cell? ⟨w.heap.size, 6, none⟩ = some (.slice ra n.rs.length rc) := cellS HX.out 6
  have y6 : w1.cell? ⟨w.heap.size + 1, 6, none⟩ = some (.slice sa n.rs.length sc) := cellS HY.out 6
  go_wp2_with fail
  with_reducible refine (eqLnS_same ra sa rc sc n.rs _ HV2.out HK2.out m2).mono ?_
  rintro e w2 ⟨rfl, hb⟩
  clear x6 y6
  replace HX := Lib.hid ((hb.block _ (Array.getElem?_eq_some_iff.1 HX.out).1).trans HX.out)
  replace HY := Lib.hid ((hb.block _ (Array.getElem?_eq_some_iff.1 HY.out).1).trans HY.out)
  replace HB := Lib.hid (bkeep2 HB.out hb)
  clear hb
  have hx := node_pk (nodeAt HX.out)
  have hy := node_pk (nodeAt HY.out)
  simp only [Nat.zero_add] at hx hy
  have HRX := Lib.hid hx
  have HRY := Lib.hid hy
  clear hx hy
  go_wp2_with (first | (refine wpList_load_mid rfl 80 _ rfl w.heap.size 7 rfl [.int .i64 n.pk.w, .int .i64 n.pk.h, .int .i64 n.pk.s, .bool n.pk.fx, .bool n.pk.fy, .bool n.pk.ex, .int .i64 n.pk.an, .int .i64 n.pk.px, .int .i64 n.pk.py] _ HRX.out Tryz.underlying80 rfl (by kernel_rfl) ?_) | (refine wpList_load_mid rfl 80 _ rfl (w.heap.size + 1) 7 rfl [.int .i64 n.pk.w, .int .i64 n.pk.h, .int .i64 n.pk.s, .bool n.pk.fx, .bool n.pk.fy, .bool n.pk.ex, .int .i64 n.pk.an, .int .i64 n.pk.px, .int .i64 n.pk.py] _ HRY.out Tryz.underlying80 rfl (by kernel_rfl) ?_))
  with_reducible refine (eqPack_same n.pk _).mono ?_
  rintro e w3 ⟨rfl, hb⟩
  clear HRX HRY
  replace HX := Lib.hid ((hb.block _ (Array.getElem?_eq_some_iff.1 HX.out).1).trans HX.out)
  replace HY := Lib.hid ((hb.block _ (Array.getElem?_eq_some_iff.1 HY.out).1).trans HY.out)
  replace HB := Lib.hid (bkeep2 HB.out hb)
  clear hb
  have hx := node_ce (nodeAt HX.out)
  have hy := node_ce (nodeAt HY.out)
  simp only [Nat.zero_add] at hx hy
  have HRX := Lib.hid hx
  have HRY := Lib.hid hy
  clear hx hy
  go_wp2_with (first | (refine wpList_load_mid rfl 81 _ rfl w.heap.size 16 rfl [.int .i64 n.ce.co, .int .i64 n.ce.ro, .int .i64 n.ce.mc, .int .i64 n.ce.mr, .int .i64 n.ce.cw, .int .i64 n.ce.ch, .int .i64 n.ce.sk, .int .i64 n.ce.px, .int .i64 n.ce.py] _ HRX.out Tryz.underlying81 rfl (by kernel_rfl) ?_) | (refine wpList_load_mid rfl 81 _ rfl (w.heap.size + 1) 16 rfl [.int .i64 n.ce.co, .int .i64 n.ce.ro, .int .i64 n.ce.mc, .int .i64 n.ce.mr, .int .i64 n.ce.cw, .int .i64 n.ce.ch, .int .i64 n.ce.sk, .int .i64 n.ce.px, .int .i64 n.ce.py] _ HRY.out Tryz.underlying81 rfl (by kernel_rfl) ?_))
  with_reducible refine (eqCe_same n.ce _).mono ?_
  rintro e w4 ⟨rfl, hb⟩
  clear HRX HRY
  replace HX := Lib.hid ((hb.block _ (Array.getElem?_eq_some_iff.1 HX.out).1).trans HX.out)
  replace HY := Lib.hid ((hb.block _ (Array.getElem?_eq_some_iff.1 HY.out).1).trans HY.out)
  replace HB := Lib.hid (bkeep2 HB.out hb)
  clear hb
  have hx := node_pl (nodeAt HX.out)
  have hy := node_pl (nodeAt HY.out)
  simp only [Nat.zero_add] at hx hy
  have HRX := Lib.hid hx
  have HRY := Lib.hid hy
  clear hx hy
  go_wp2_with (first | (refine wpList_load_mid rfl 82 _ rfl w.heap.size 25 rfl [.int .i64 n.pl.x, .int .i64 n.pl.y, .int .i64 n.pl.rx, .int .i64 n.pl.ry, .int .i64 n.pl.ww, .int .i64 n.pl.hh, .int .i64 n.pl.qw, .int .i64 n.pl.qh, .int .i64 n.pl.an] _ HRX.out Tryz.underlying82 rfl (by kernel_rfl) ?_) | (refine wpList_load_mid rfl 82 _ rfl (w.heap.size + 1) 25 rfl [.int .i64 n.pl.x, .int .i64 n.pl.y, .int .i64 n.pl.rx, .int .i64 n.pl.ry, .int .i64 n.pl.ww, .int .i64 n.pl.hh, .int .i64 n.pl.qw, .int .i64 n.pl.qh, .int .i64 n.pl.an] _ HRY.out Tryz.underlying82 rfl (by kernel_rfl) ?_))
  with_reducible refine (eqPlace_same n.pl _).mono ?_
  rintro e w5 ⟨rfl, hb⟩
  clear HRX HRY
  replace HX := Lib.hid ((hb.block _ (Array.getElem?_eq_some_iff.1 HX.out).1).trans HX.out)
  replace HY := Lib.hid ((hb.block _ (Array.getElem?_eq_some_iff.1 HY.out).1).trans HY.out)
  replace HB := Lib.hid (bkeep2 HB.out hb)
  clear hb
  go_wp2
  go_ret
  exact ⟨rfl, HB.out⟩
theorem eqN_w (p q : Nr) (w : World) (hn : q.n = p.n) (hp : RdN w p) (hq : RdN w q) (m1 : p.n.cs.length ≤ 1048576) (m2 : p.n.rs.length ≤ 1048576) :
    Calls Tryz.prog 60 #[.agg (valsNr p).toArray, .agg (valsNr q).toArray] w fun e w' => e = .returned (.bool true) ∧ Below w.heap.size w w' := by
  obtain ⟨n, ca, cc, ra, rc⟩ := p
  obtain ⟨n', da, dc, sa, sc⟩ := q
  obtain rfl : n' = n := hn
  exact eqNode_same n' ca cc ra rc da dc sa sc w hp.c hp.r hq.c hq.r m1 m2
set_option maxRecDepth 100000 in
theorem eqNodeS_same (A B : Option Addr) (c c' : Nat) (R S : List Nr) (w : World) (hn : S.map Nr.n = R.map Nr.n) (h : NrV w A R) (h' : NrV w B S) (hr : RdR w R) (hs : RdR w S) (hL : R.length ≤ 1048576) (hm : ∀ p ∈ R, p.n.cs.length ≤ 1048576 ∧ p.n.rs.length ≤ 1048576) (k : Nat) (hk : k = R.length) :
    Calls Tryz.prog 32 #[.slice A k c, .slice B k c'] w fun e w' => e = .returned (.bool true) ∧ Below w.heap.size w w' := by
  subst hk
  have hls : S.length = R.length := by have := congrArg List.length hn; simpa using this
  have HN := Lib.hid hn
  have HR := Lib.hid hr
  have HS := Lib.hid hs
  have HM := Lib.hid hm
  have HLS := Lib.hid hls
  clear hn hr hs hm hls
  go_enter Tryz.func32, Tryz.ntmps32
  go_wp2_with fail
  go_loopw [5] (fun i wr => ∃ k : Nat, k ≤ R.length ∧ i = .int .i64 k ∧ Below w.heap.size w wr) (fun i _ => R.length - (intOf i).toNat)
  case atStart => exact ⟨0, by omega, rfl, Below.refl _ _⟩
  case round =>
    obtain ⟨k, hk, rfl, hB⟩ := hrel
    by_cases hlt : k < R.length
    · have hd : decide ((k : Int) < (R.length : Int)) = true := by simpa using hlt
      have hlt' : k < S.length := by rw [HLS.out]; exact hlt
      obtain ⟨b, off, rfl, hb, hp⟩ := (h.keep hB).cells (by omega)
      obtain ⟨b', off', rfl, hb', hp'⟩ := (h'.keep hB).cells (by omega)
      have hg1 : R[k]? = some R[k] := List.getElem?_eq_getElem hlt
      have hg2 : S[k]? = some S[k] := List.getElem?_eq_getElem hlt'
      have hr1 := hp k _ hg1
      have hr2 := hp' k _ hg2
      have hnn : (S[k]).n = (R[k]).n := by
        have := congrArg (fun l => l[k]?) HN.out
        simpa [List.getElem?_map, hg1, hg2] using this
      have hrd1 := (HR.out.keep hB) _ (List.mem_of_getElem? hg1)
      have hrd2 := (HS.out.keep hB) _ (List.mem_of_getElem? hg2)
      have hmm := HM.out _ (List.mem_of_getElem? hg1)
      generalize R[k] = p at *
      generalize S[k] = q at *
      have HR1 := Lib.hid hr1
      have HR2 := Lib.hid hr2
      have HNN := Lib.hid hnn
      have HBB := Lib.hid hB
      have HD1 := Lib.hid hrd1
      have HD2 := Lib.hid hrd2
      obtain ⟨mm1, mm2⟩ := hmm
      clear hr1 hr2 hnn hB hg1 hg2 hp hp' hrd1 hrd2 hlt'
      go_wp2_with fail
      refine wp_region_grow 10 0 (· < 10) (by kernel_rfl) (by kernel_rfl) rfl ?_
      iterate 10 (refine wpG_step (fun K hK => ?_); first | (refine grow_ldN _ p b (off + k * 34) rfl rfl rfl hb (rangeB HR1.out rfl) ?_; refine hK _ ?_; clear hK K) | (refine grow_ldN _ q b' (off' + k * 34) rfl rfl rfl hb' (rangeB HR2.out rfl) ?_; refine hK _ ?_; clear hK K) | (refine grow_skip rfl ?_; go_simp; refine hK _ ?_; clear hK K) | (apply Exists.intro; refine ⟨.inl ⟨rfl, fun w' hw' => ?_⟩, ?_⟩; (focus ((obtain ⟨hc, hf⟩ := bcell hw'.out); (have hcS := bcellS hw'.out); go_simp <;> first | rfl | (go_at_call 60; exact eqN_w p q _ HNN.out (HD1.out.keep (bdrewn hw'.out)) (HD2.out.keep (bdrewn hw'.out)) mm1 mm2))); (go_simp; refine hK _ ?_; clear hK K)))
      refine wpG_nil ?_
      refine wpK_tail (by kernel_rfl) (fun w1 hg1 => ?_)
      have hb1 := bdrewn hg1.out
      refine wpAny_end (by kernel_rfl) ?_
      refine NoPan.thn ?_
      clear hg1
      replace HBB := Lib.hid (HBB.out.trans (hb1.mono HBB.out.size))
      clear hb1
      go_wp2
      go_roundw
      case rel => exact ⟨k + 1, by omega, by go_num, HBB.out⟩
      case measure => simp [intOf]; omega
    · have hd : decide ((k : Int) < (R.length : Int)) = false := decide_eq_false (by omega)
      have HBB := Lib.hid hB
      clear hB
      go_wp2
      go_ret
      exact ⟨rfl, HBB.out⟩
set_option maxRecDepth 100000 in
theorem eqTree_same (A B : Option Addr) (c c' : Nat) (R S : List Nr) (w : World) (hn : S.map Nr.n = R.map Nr.n) (h : NrV w A R) (h' : NrV w B S) (hr : RdR w R) (hs : RdR w S) (hL : R.length ≤ 1048576) (hm : ∀ p ∈ R, p.n.cs.length ≤ 1048576 ∧ p.n.rs.length ≤ 1048576) (k : Nat) (hk : k = R.length) :
    Calls Tryz.prog 11 #[.agg #[.slice A k c], .agg #[.slice B k c']] w fun e w' => e = .returned (.bool true) ∧ Below w.heap.size w w' := by
  have hB0 : Below w.heap.size w ((w.alloc (.cells #[.slice A k c] 30 (0, 0))).alloc (.cells #[.slice B k c'] 30 (0, 0))) := balloc (balloc (Below.refl _ _))
  have hx := (Below.heap_alloc _ (.cells #[.slice B k c'] 30 (0, 0)) w.heap.size (by simp)).trans (newS w (.cells #[.slice A k c] 30 (0, 0)))
  have hy := newS1T w (.cells #[.slice A k c] 30 (0, 0)) (.cells #[.slice B k c'] 30 (0, 0))
  have x0 := cellS hx 0
  have y0 := cellS hy 0
  have HA := Lib.hid (And.intro (h.keep hB0) (And.intro (h'.keep hB0) (And.intro (hr.keep hB0) (hs.keep hB0))))
  have HN := Lib.hid (And.intro hn (And.intro hm hk))
  have HB := Lib.hid hB0
  clear hB0 hx hy hn h h' hr hs hm hk
  go_enter Tryz.func11, Tryz.ntmps11
  go_wp2_with fail
  with_reducible refine (eqNodeS_same A B c c' R S _ HN.out.1 HA.out.1 HA.out.2.1 HA.out.2.2.1 HA.out.2.2.2 hL HN.out.2.1 k HN.out.2.2).mono ?_
  rintro e w1 ⟨rfl, hb⟩
  clear x0 y0
  replace HB := Lib.hid (bkeep2 HB.out hb)
  clear hb
  go_wp2
  go_ret
  exact ⟨rfl, HB.out⟩
end Go.Proofs.YtgdkionmeacalaaGreat
end
section
set_option linter.unusedVariables false
namespace Go.Proofs.YtgdkionmeacalaaGreat
/-- the share of the first item: what is left of the answer, the room, the count -/
def shareGo : List Pk → Bool → Int → Int → Int → Int
  | [], d, sh, rm, n => mn sh (mx rm 0 / n)
  | p :: r, d, sh, rm, n => if p.down = d then shareGo r d sh (rm - p.need d) (if p.ex then n + 1 else n) else shareGo r d (mn sh (mx (rm - p.need d) 0 / n)) rm n
def halfI (r n : Int) : Int := if r < 0 then 0 else r / n
theorem drop_cons {L : List Pk} {k : Nat} {p : Pk} (h : L[k]? = some p) : L.drop k = p :: L.drop (k + 1) := by
  have hk := (List.getElem?_eq_some_iff.1 h).1
  have e := (List.getElem?_eq_some_iff.1 h).2
  rw [List.drop_eq_getElem_cons hk, e]
end Go.Proofs.YtgdkionmeacalaaGreat
end
section
namespace Go.Proofs.YtgdkionmeacalaaGreat
open Go.RowKit
set_option linter.unusedVariables false
set_option maxHeartbeats 1000000
attribute [local go_sem 5000] run_mx run_mn
theorem belowN' {B : Nat} {a w : World} (h : Below B a w) (n : Nat) : Below B a (w.drewN n) := ⟨h.os, h.tape, h.output, h.size, h.block⟩
theorem isDown_x (p : Pk) (ex : Bool) (w : World) : Calls Tryz.prog 156 #[.agg #[.int .i64 p.w, .int .i64 p.h, .int .i64 p.s, .bool p.fx, .bool p.fy, .bool ex, .int .i64 p.an, .int .i64 p.px, .int .i64 p.py]] w fun e w' => e = .returned (.bool p.down) ∧ Below w.heap.size w w' := by
  by_cases h0 : p.s = 0
  · have e0 : (p.s == 0) = true := by simpa using h0
    go_enter Tryz.func156, Tryz.ntmps156
    go_wp2
    go_ret
    exact ⟨ret_bool (by simp [Pk.down, h0]), balloc (Below.refl _ _)⟩
  · have e0 : (p.s == 0) = false := by simpa using h0
    by_cases h1 : p.s = 1
    · have e1 : (p.s == 1) = true := by simpa using h1
      go_enter Tryz.func156, Tryz.ntmps156
      go_wp2
      go_ret
      exact ⟨ret_bool (by simp [Pk.down, h1]), balloc (Below.refl _ _)⟩
    · have e1 : (p.s == 1) = false := by simpa using h1
      go_enter Tryz.func156, Tryz.ntmps156
      go_wp2
      go_ret
      exact ⟨ret_bool (by simp [Pk.down, h0, h1]), balloc (Below.refl _ _)⟩
theorem isDown_v (p : Pk) (w : World) : Calls Tryz.prog 156 #[.agg #[.int .i64 p.w, .int .i64 p.h, .int .i64 p.s, .bool p.fx, .bool p.fy, .bool p.ex, .int .i64 p.an, .int .i64 p.px, .int .i64 p.py]] w fun e w' => e = .returned (.bool p.down) ∧ Below w.heap.size w w' := isDown_x p p.ex w
theorem upright_v (s : Int) (w : World) : Calls Tryz.prog 72 #[.int .i64 s] w fun e w' => e = .returned (.bool (decide (s = 0 ∨ s = 1))) ∧ w = w' := by
  by_cases h0 : s = 0
  · have e0 : (s == 0) = true := by simpa using h0
    go_enter Tryz.func72, Tryz.ntmps72
    go_wp2
    go_ret
    exact ⟨ret_bool (by simp [h0]), rfl⟩
  · have e0 : (s == 0) = false := by simpa using h0
    by_cases h1 : s = 1
    · have e1 : (s == 1) = true := by simpa using h1
      go_enter Tryz.func72, Tryz.ntmps72
      go_wp2
      go_ret
      exact ⟨ret_bool (by simp [h1]), rfl⟩
    · have e1 : (s == 1) = false := by simpa using h1
      go_enter Tryz.func72, Tryz.ntmps72
      go_wp2
      go_ret
      exact ⟨ret_bool (by simp [h0, h1]), rfl⟩
theorem need_w (p : Pk) (d : Bool) (w : World) (h : p.big) : Calls Tryz.prog 197 #[.agg #[.int .i64 p.w, .int .i64 p.h, .int .i64 p.s, .bool p.fx, .bool p.fy, .bool p.ex, .int .i64 p.an, .int .i64 p.px, .int .i64 p.py], .bool d] w fun e w' => e = .returned (.int .i64 (p.need d)) ∧ Below w.heap.size w w' := by
  obtain ⟨⟨a1, a2⟩, ⟨a3, a4⟩, _, _, ⟨a5, a6⟩, ⟨a7, a8⟩⟩ := h
  cases d
  all_goals
    go_enter Tryz.func197, Tryz.ntmps197
    go_wp2
    go_ret
    exact ⟨ret_int rfl, balloc (Below.refl _ _)⟩
theorem outer_w (p : Pk) (w : World) (h : p.big) : Calls Tryz.prog 71 #[.agg #[.int .i64 p.w, .int .i64 p.h, .int .i64 p.s, .bool p.fx, .bool p.fy, .bool p.ex, .int .i64 p.an, .int .i64 p.px, .int .i64 p.py]] w fun e w' => e = .returned (.tuple #[.int .i64 (p.need false), .int .i64 (p.need true)]) ∧ Below w.heap.size w w' := by
  obtain ⟨⟨a1, a2⟩, ⟨a3, a4⟩, _, _, ⟨a5, a6⟩, ⟨a7, a8⟩⟩ := h
  have e1 : IntKind.i64.wrap (2 * p.px) = 2 * p.px := IntWalk.i64_in _ (by omega)
  have e2 : IntKind.i64.wrap (2 * p.py) = 2 * p.py := IntWalk.i64_in _ (by omega)
  have e3 : IntKind.i64.wrap (p.w + 2 * p.px) = p.w + 2 * p.px := IntWalk.i64_in _ (by omega)
  have e4 : IntKind.i64.wrap (p.h + 2 * p.py) = p.h + 2 * p.py := IntWalk.i64_in _ (by omega)
  go_enter Tryz.func71, Tryz.ntmps71
  go_wp2_with fail
  go_quiet (fail)
  clear e1 e2 e3 e4
  go_wp2
  go_ret2
  exact ⟨rfl, belowN' (balloc (Below.refl _ _)) _⟩
end Go.Proofs.YtgdkionmeacalaaGreat
end
section
set_option linter.unusedVariables false
namespace Go.Proofs.YtgdkionmeacalaaGreat
structure Rc where
  x : Int
  y : Int
  u : Int
  v : Int
def Rc.ok (r : Rc) : Bool := vr r.x r.y r.u r.v
/-- the piece at a side, and the rest -/
def cutP (r : Rc) (s n : Int) : Rc × Rc :=
  if s = 0 then (⟨r.x, r.y, r.u, mn n r.v⟩, ⟨r.x, r.y + mn n r.v, r.u, r.v - mn n r.v⟩)
  else if s = 1 then (⟨r.x, r.y + (r.v - mn n r.v), r.u, mn n r.v⟩, ⟨r.x, r.y, r.u, r.v - mn n r.v⟩)
  else if s = 2 then (⟨r.x, r.y, mn n r.u, r.v⟩, ⟨r.x + mn n r.u, r.y, r.u - mn n r.u, r.v⟩)
  else (⟨r.x + (r.u - mn n r.u), r.y, mn n r.u, r.v⟩, ⟨r.x, r.y, r.u - mn n r.u, r.v⟩)
def Rc.size (r : Rc) (d : Bool) : Int := if d then r.v else r.u
/-- how much the first item has more -/
def moreOf : List Pk → Rc → Int
  | [], _ => 0
  | p :: r, z => if p.ex then shareGo (p :: r) p.down (z.size p.down) (z.size p.down) 0 else 0
def takeOf (p : Pk) (r : List Pk) (z : Rc) : Int := p.need p.down + moreOf (p :: r) z
def parcM : List Pk → Rc → List Rc × Rc
  | [], z => ([], z)
  | p :: r, z => ((cutP z p.s (takeOf p r z)).1 :: (parcM r (cutP z p.s (takeOf p r z)).2).1, (parcM r (cutP z p.s (takeOf p r z)).2).2)
end Go.Proofs.YtgdkionmeacalaaGreat
end
section
set_option linter.unusedVariables false
namespace Go.Proofs.YtgdkionmeacalaaGreat
/-- what items need together: across, down -/
def reqM : List Pk → Int × Int
  | [] => (0, 0)
  | p :: t => if p.down then (mx (reqM t).1 (p.need false), (reqM t).2 + p.need true) else ((reqM t).1 + p.need false, mx (reqM t).2 (p.need true))
def reqD (L : List Pk) (d : Bool) : Int := if d then (reqM L).2 else (reqM L).1
theorem reqD_nil (d : Bool) : reqD [] d = 0 := by cases d <;> rfl
theorem reqD_same {p : Pk} {t : List Pk} {d : Bool} (h : p.down = d) : reqD (p :: t) d = reqD t d + p.need d := by
  cases d <;> simp [reqD, reqM, h]
theorem reqD_other {p : Pk} {t : List Pk} {d : Bool} (h : ¬ p.down = d) : reqD (p :: t) d = mx (reqD t d) (p.need d) := by
  cases d
  · have h' : p.down = true := by simpa using h
    simp [reqD, reqM, h']
  · have h' : p.down = false := by simpa using h
    simp [reqD, reqM, h']
theorem reqM_bdW : ∀ {L : List Pk}, (∀ p ∈ L, p.big) → 0 ≤ (reqM L).1 ∧ (reqM L).1 ≤ 1000000000020 * L.length ∧ 0 ≤ (reqM L).2 ∧ (reqM L).2 ≤ 1000000000020 * L.length
  | [], _ => by simp [reqM]
  | p :: t, h => by
    obtain ⟨a1, a2, a3, a4⟩ := reqM_bdW (L := t) (fun q hq => h q (List.mem_cons_of_mem _ hq))
    have n1 := Pk.need_bdW (h p List.mem_cons_self) false
    have n2 := Pk.need_bdW (h p List.mem_cons_self) true
    have m1 := mx_spec (reqM t).1 (p.need false)
    have m2 := mx_spec (reqM t).2 (p.need true)
    simp only [reqM, List.length_cons]
    split <;> (dsimp only; omega)
/-- the item at the other end -/
def Pk.flip (p : Pk) : Pk := { p with s := if p.s = 0 then 1 else if p.s = 1 then 0 else if p.s = 2 then 3 else 2 }
/-- a rectangle in another one -/
def Rc.inn (a b : Rc) : Prop := a.x ≤ b.x ∧ a.y ≤ b.y ∧ b.x + b.u ≤ a.x + a.u ∧ b.y + b.v ≤ a.y + a.v
/-- they have a common point -/
def Rc.met (a b : Rc) : Prop := 0 < mn (a.x + a.u) (b.x + b.u) - mx a.x b.x ∧ 0 < mn (a.y + a.v) (b.y + b.v) - mx a.y b.y
def Rc.area (r : Rc) : Int := r.u * r.v
def areas : List Rc → Int
  | [] => 0
  | r :: t => r.area + areas t
end Go.Proofs.YtgdkionmeacalaaGreat
end
section
namespace Go.Proofs.YtgdkionmeacalaaGreat
open Go.RowKit
set_option linter.unusedVariables false
set_option maxHeartbeats 4000000
attribute [local go_sem 5000] run_mx run_mn
attribute [local go_sem] Oper.semAt_some
/-- what comes: an index, and a valid item -/
structure BkE where
  i : Int
  p : Pk
  ok : p.big
def encB (x : BkE) : Array Value := #[.int .i64 x.i, .agg #[.int .i64 x.p.w, .int .i64 x.p.h, .int .i64 x.p.s, .bool x.p.fx, .bool x.p.fy, .bool x.p.ex, .int .i64 x.p.an, .int .i64 x.p.px, .int .i64 x.p.py]]
/-- what a round must keep -/
def KpB (n0 Bs : Nat) (W W' : World) : Prop := Below n0 W W' ∧ W'.heap[Bs]? = W.heap[Bs]?
theorem KpB.cell {n0 Bs : Nat} {W W' : World} (h : KpB n0 Bs W W') (o : Nat) : W'.cell? ⟨Bs, o, none⟩ = W.cell? ⟨Bs, o, none⟩ := World.cell?_of_block h.2
theorem KpB.refl (n0 Bs : Nat) (W : World) : KpB n0 Bs W W := ⟨Below.refl _ _, rfl⟩
theorem KpB.trans {n0 Bs : Nat} {A B C : World} (h : KpB n0 Bs A B) (k : KpB n0 Bs B C) : KpB n0 Bs A C := ⟨h.1.trans k.1, k.2.trans h.2⟩
/-- the slice reads as the list, in a block below n0 -/
def PVn (n0 : Nat) (W : World) (A : Option Addr) (L : List Pk) : Prop := 0 < L.length → ∃ b off, A = some ⟨b, off, none⟩ ∧ b < n0 ∧ PS W b off L
theorem PVn.below {n0 : Nat} {W W' : World} {A : Option Addr} {L : List Pk} (h : PVn n0 W A L) (hb : Below n0 W W') : PVn n0 W' A L := fun h0 =>
  let ⟨b, off, e, hl, hp⟩ := h h0; ⟨b, off, e, hl, fun i p hi => (hp i p hi).keep (hb.block b hl)⟩
set_option maxRecDepth 100000 in
theorem bk1_in (F : Fence) (n : Nat) (hF : F.fn 202) (hro : F.round = none) (hn : 1 ≤ n) (l Bs n0 : Nat) (A : Option Addr) (c : Nat) (L : List Pk) (hL : L.length ≤ 10) (hok : ∀ p ∈ L, p.big) (J Jx : List BkE → World → Prop)
    (hY : ∀ pre x W, J pre W → pre.length < L.length → YieldAt F (n - 1) Tryz.prog l (encB x) W fun e W' =>
      (e = .returned (.bool true) ∧ J (pre ++ [x]) W' ∧ KpB n0 Bs W W') ∨ (e = .returned (.bool false) ∧ Jx (pre ++ [x]) W'))
    (W : World) (hBs : W.cell? ⟨Bs, 0, none⟩ = some (.slice A L.length c)) (hp : PVn n0 W A L) (h0 : J [] W) :
    CallsIn F n Tryz.prog 202 #[.func (.yield l) #[] #[], .pointer (some ⟨Bs, 0, none⟩)] W fun e W' => (∃ v, e = .returned v) ∧
      ((∃ ys, ys.map BkE.p = L.reverse ∧ J ys W') ∨ (∃ pre, True ∧ Jx pre W')) := by
  refine callsIn_of_wp Tryz.func202 rfl hF ?_ hro
  simp only [Tryz.ntmps202, List.size_toArray, List.length_cons, List.length_nil, Nat.reduceAdd, Nat.reduceSub, Array.replicate_succ, Array.replicate_zero, List.push_toArray, List.append_toArray, List.nil_append, List.cons_append]
  gi_wp2
  gi_loopw [3] (fun i wr => ∃ k : Nat, k ≤ L.length ∧ i = .int .i64 ((k : Int) - 1) ∧ (∃ ys, ys.map BkE.p = (L.drop k).reverse ∧ J ys wr) ∧ KpB n0 Bs W wr)
    (fun i _ => (intOf i + 1).toNat)
  case atStart => exact ⟨L.length, Nat.le_refl _, rfl, ⟨[], by simp, h0⟩, KpB.refl _ _ _⟩
  case round =>
    obtain ⟨k, hk, rfl, ⟨ys, hys, hJs⟩, hK⟩ := hrel
    rcases k with _ | j
    · have hd : decide (((0 : Nat) : Int) - 1 ≥ 0) = false := by simp
      rw [List.drop_zero] at hys
      have HYS := Lib.hid hys
      clear hys
      gi_wp2
      go_end0
      exact ⟨⟨_, rfl⟩, .inl ⟨ys, HYS.out, hJs⟩⟩
    · have e1 : ((j + 1 : Nat) : Int) - 1 = (j : Int) := by omega
      rw [e1]
      have hlt : j < L.length := by omega
      have hd : decide ((j : Int) ≥ 0) = true := by simp
      have hd2 : decide ((0 : Int) ≤ (j : Int)) = true := by simp
      obtain ⟨b, off, rfl, hb, hps⟩ := hp.below hK.1 (by omega)
      have hget : L[j]? = some L[j] := List.getElem?_eq_getElem hlt
      obtain ⟨c0, c1, c2, c3, c4, c5, c6, c7, c8⟩ := hps j _ hget
      have hpok : L[j].big := hok _ (List.getElem_mem hlt)
      have hdrop := drop_cons hget
      generalize hx : L[j] = p at *
      have hl : ys.length < L.length := by
        have := congrArg List.length hys
        simp at this; omega
      have hcs := (hK.cell 0).trans hBs
      obtain ⟨fn, tmps, assign, body, hy, hR⟩ := hY ys ⟨j, p, hpok⟩ wr hJs hl
      dsimp only [encB] at hy
      have HYS := Lib.hid hys
      have HD := Lib.hid hdrop
      have HK := Lib.hid hK
      have HG := Lib.hid hget
      have HX := Lib.hid hx
      have HPS := Lib.hid hps
      clear hys hdrop hK hget hx hps e1
      have hjs : IntKind.i64.wrap ((j : Int) - 1) = (j : Int) - 1 := IntWalk.i64_in _ (by omega)
      gi_wp2
      refine hR.mono ?_
      rintro e W3 (⟨rfl, hJ3, hk3⟩ | ⟨rfl, hJx3⟩)
      · gi_wp2
        go_roundw
        case rel => exact ⟨j, by omega, by go_num, ⟨_, by rw [HD.out, List.reverse_cons, List.map_append, HYS.out]; rfl, hJ3⟩, HK.out.trans hk3⟩
        case measure => simp [intOf]
      · gi_wp2
        refine bodyPost_ret (results_none rfl _ _ _) rfl ?_
        exact ⟨⟨_, rfl⟩, .inr ⟨_, trivial, hJx3⟩⟩
end Go.Proofs.YtgdkionmeacalaaGreat
end
section
namespace Go.Proofs.YtgdkionmeacalaaGreat
open Go.RowKit
set_option linter.unusedVariables false
set_option maxHeartbeats 4000000
attribute [local go_sem 5000] run_mx run_mn
attribute [local go_sem] Oper.semAt_some
set_option maxRecDepth 100000 in
theorem backward_in (F : Fence) (n : Nat) (hF : F.fn 196) (hro : F.round = none) (a : Option Addr) (len cap : Nat) (w : World) :
    CallsIn F n Tryz.prog 196 #[.slice a len cap] w fun e w' => e = .returned (.func (.func 202) #[] #[.pointer (some ⟨w.heap.size, 0, none⟩)]) ∧ w' = w.alloc (.cells #[.slice a len cap] 87) := by
  refine callsIn_of_wp Tryz.func196 rfl hF ?_ hro
  simp only [Tryz.ntmps196, List.size_toArray, List.length_cons, List.length_nil, Nat.reduceAdd, Nat.reduceSub, Array.replicate_succ, Array.replicate_zero, List.push_toArray, List.append_toArray, List.nil_append, List.cons_append]
  gi_wp2
  go_ret
  exact ⟨rfl, rfl⟩
theorem bk_stops (F : Fence) (n : Nat) (hF : F.fn 202) (hro : F.round = none) (hn : 1 ≤ n) (Bs n0 : Nat) (A : Option Addr) (c : Nat) (L : List Pk) (hL : L.length ≤ 10) (hok : ∀ p ∈ L, p.big) (w : World) (hBs : Bs < w.heap.size) (hn0 : n0 ≤ w.heap.size)
    (hc : w.cell? ⟨Bs, 0, none⟩ = some (.slice A L.length c)) (hp : PVn n0 w A L) :
    SeqStopsK F n Tryz.prog 202 #[.pointer (some ⟨Bs, 0, none⟩)] encB (KpB n0 Bs) (fun ys => ys.map BkE.p = L.reverse) (fun _ => True) L.length w := fun l J Jx W hW _ _ hY h0 =>
  bk1_in F n hF hro hn l Bs n0 A c L hL hok J Jx hY W ((hW.cell (p := ⟨Bs, 0, none⟩) hBs).trans hc) (hp.below (hW.mono hn0)) h0
/-- what the items that have come need -/
def accB (d : Bool) : List BkE → Int
  | [] => 0
  | x :: t => if x.p.down = d then accB d t + x.p.need d else mx (accB d t) (x.p.need d)
theorem accB_bd (d : Bool) : ∀ ys : List BkE, 0 ≤ accB d ys ∧ accB d ys ≤ 1000000000020 * ys.length
  | [] => by simp [accB]
  | x :: t => by
    have := accB_bd d t
    have nb := Pk.need_bdW x.ok d
    have m := mx_spec (accB d t) (x.p.need d)
    simp only [accB, List.length_cons]
    split <;> omega
def acc (d : Bool) (ys : List BkE) : Int := accB d ys.reverse
theorem acc_bd (d : Bool) (ys : List BkE) : 0 ≤ acc d ys ∧ acc d ys ≤ 1000000000020 * ys.length := by have := accB_bd d ys.reverse; rwa [List.length_reverse] at this
theorem acc_same {d : Bool} {ys : List BkE} {x : BkE} (h : x.p.down = d) : acc d (ys ++ [x]) = acc d ys + x.p.need d := by
  simp [acc, accB, h]
theorem acc_other {d : Bool} {ys : List BkE} {x : BkE} (h : ¬ x.p.down = d) : acc d (ys ++ [x]) = mx (acc d ys) (x.p.need d) := by
  simp only [acc, List.reverse_append, List.reverse_cons, List.reverse_nil, List.nil_append, List.cons_append, accB, if_neg h]
theorem accB_req {d : Bool} : ∀ {ys : List BkE} {L : List Pk}, ys.map BkE.p = L → accB d ys = reqD L d
  | [], L, h => by
    simp at h; subst h
    rw [reqD_nil]; rfl
  | x :: t, L, h => by
    simp at h
    subst h
    have ih := accB_req (d := d) (ys := t) rfl
    by_cases hd : x.p.down = d
    · rw [reqD_same hd, ← ih, accB, if_pos hd]
    · rw [reqD_other hd, ← ih, accB, if_neg hd]
theorem acc_req {d : Bool} {ys : List BkE} {L : List Pk} (h : ys.map BkE.p = L.reverse) : acc d ys = reqD L d := by
  refine accB_req ?_
  rw [List.map_reverse, h, List.reverse_reverse]
theorem isDown_b (p : Pk) (b : Bool) (h : p.down = b) (w : World) : Calls Tryz.prog 156 #[.agg #[.int .i64 p.w, .int .i64 p.h, .int .i64 p.s, .bool p.fx, .bool p.fy, .bool p.ex, .int .i64 p.an, .int .i64 p.px, .int .i64 p.py]] w fun e w' => e = .returned (.bool b) ∧ Below w.heap.size w w' := by rw [← h]; exact isDown_v p w
theorem bdr {W w' : World} (h : Below W.drew.heap.size W.drew w') : Below W.heap.size W w' := (Below.refl _ _).drew.trans h
theorem keepsFrom_below {B : Nat} {W W' : World} (h : Below W.heap.size W W') : KeepsFrom B W W' := ⟨h.size, fun k o _ hk _ => (h.block k (Array.getElem?_eq_some_iff.1 hk).1).trans hk⟩
theorem kpB_below {n0 Bs : Nat} {W W' : World} (h : Below W.heap.size W W') (h0 : n0 ≤ W.heap.size) (hs : Bs < W.heap.size) : KpB n0 Bs W W' := ⟨h.mono h0, h.block Bs hs⟩
theorem round_end {w W w2 : World} {B0 : Nat} {A : Option Addr} {c : Nat} {L : List Pk} {d : Bool} {pre : List BkE} {x : BkE} {v u : Int} {T1 T2 T3 : TypeId} (b2 : Below W.heap.size W w2) (bS : Boxed W (w.heap.size + 1) T1 (.int .i64 u)) (bD : Boxed W w.heap.size T2 (.bool d)) (bL : Boxed W (w.heap.size + 1 + 1) T3 (.slice A L.length c)) (hB : Below w.heap.size w W) (hl : w.heap.size ≤ W.heap.size) (hv : acc d (pre ++ [x]) = v) :
    KeepsFrom B0 W (w2.setCell ⟨w.heap.size + 1, 0, none⟩ (.int .i64 v)) ∧ KpB w.heap.size (w.heap.size + 1 + 1) W (w2.setCell ⟨w.heap.size + 1, 0, none⟩ (.int .i64 v)) ∧
      ((Boxed (w2.setCell ⟨w.heap.size + 1, 0, none⟩ (.int .i64 v)) (w.heap.size + 1) T1 (.int .i64 (acc d (pre ++ [x]))) ∧ (Boxed (w2.setCell ⟨w.heap.size + 1, 0, none⟩ (.int .i64 v)) w.heap.size T2 (.bool d) ∧ Boxed (w2.setCell ⟨w.heap.size + 1, 0, none⟩ (.int .i64 v)) (w.heap.size + 1 + 1) T3 (.slice A L.length c))) ∧
        Below w.heap.size w (w2.setCell ⟨w.heap.size + 1, 0, none⟩ (.int .i64 v))) := by
  have cS : Boxed w2 (w.heap.size + 1) T1 (.int .i64 u) := (b2.block _ bS.lt).trans bS
  have cD : Boxed w2 w.heap.size T2 (.bool d) := (b2.block _ bD.lt).trans bD
  have cL : Boxed w2 (w.heap.size + 1 + 1) T3 (.slice A L.length c) := (b2.block _ bL.lt).trans bL
  refine ⟨(keepsFrom_below b2).trans ((KeepsOthers.setCell _ _ _).from _), (kpB_below b2 hl bL.lt).trans ⟨(Below.refl _ _).setCell (p := ⟨w.heap.size + 1, 0, none⟩) (by simp) _, Below.heap_setCell _ ⟨w.heap.size + 1, 0, none⟩ _ _ (by simp)⟩, ⟨⟨by rw [hv]; exact cS.set _, cD.other (by omega) _, cL.other (by omega) _⟩, (hB.trans (b2.mono hl)).setCell (p := ⟨w.heap.size + 1, 0, none⟩) (by simp) _⟩⟩
set_option maxRecDepth 100000 in
theorem packRequest_w (A : Option Addr) (c : Nat) (L : List Pk) (d : Bool) (w : World) (h : PV w A L) (hok : ∀ p ∈ L, p.big) (h7 : L.length ≤ 10) :
    Calls Tryz.prog 193 #[.slice A L.length c, .bool d] w fun e W' => e = .returned (.int .i64 (reqD L d)) ∧ Below w.heap.size w W' := by
  have HOK := Lib.hid hok
  clear hok
  refine (callsIn_wide (n := 6)).1 ?_
  refine callsIn_of_wp_marks Tryz.func193 rfl trivial ?_ rfl
  simp only [Tryz.ntmps193, List.size_toArray, List.length_cons, List.length_nil, Nat.reduceAdd, Nat.reduceSub, Array.replicate_succ, Array.replicate_zero, List.push_toArray, List.append_toArray, List.nil_append, List.cons_append]
  gi_wp2_with (refine ⟨trivial, ?_⟩; gi_at_call 196; refine (backward_in Fence.wide _ trivial rfl _ _ _ _).mono ?_; rintro e w' ⟨rfl, rfl⟩)
  have bL := Boxed.new ((w.alloc (.cells #[.bool d] 4)).alloc (.cells #[.int .i64 0] 3)) 87 (.slice A L.length c)
  have bS := (Boxed.new (w.alloc (.cells #[.bool d] 4)) 3 (.int .i64 0)).alloc (.cells #[.slice A L.length c] 87)
  have bD := ((Boxed.new w 4 (.bool d)).alloc (.cells #[.int .i64 0] 3)).alloc (.cells #[.slice A L.length c] 87)
  simp only [World.size_alloc] at bL bS bD
  have hB0 : Below w.heap.size w (((w.alloc (.cells #[.bool d] 4)).alloc (.cells #[.int .i64 0] 3)).alloc (.cells #[.slice A L.length c] 87)) := (((Below.refl _ w).alloc (Nat.le_refl _) _).alloc (by simp) _).alloc (by simp; omega) _
  have hsz : (((w.alloc (.cells #[.bool d] 4)).alloc (.cells #[.int .i64 0] 3)).alloc (.cells #[.slice A L.length c] 87)).heap.size = w.heap.size + 3 := by simp
  obtain ⟨W0, hW0⟩ : ∃ W0, ((w.alloc (.cells #[.bool d] 4)).alloc (.cells #[.int .i64 0] 3)).alloc (.cells #[.slice A L.length c] 87) = W0 := ⟨_, rfl⟩
  rw [hW0] at bL bS bD hB0 hsz ⊢
  clear hW0
  have hp0 : PVn w.heap.size W0 A L := PVn.below (fun h0 => let ⟨b, off, e, hl, hp⟩ := h.cells h0; ⟨b, off, e, hl, hp⟩) hB0
  refine wpIn_rangeFunc_ownH rfl (by omega) (gf := 202) (lb := #[.pointer (some ⟨w.heap.size + 1 + 1, 0, none⟩)]) rfl trivial (enters_of Tryz.func202 (by kernel_rfl) rfl)
    (bk_stops Fence.wide _ trivial rfl (by omega) (w.heap.size + 1 + 1) w.heap.size A c L h7 HOK.out W0 (by omega) (by omega) bL.cell hp0) KpB.trans
    (fun W l o o' hl ho hc hw => ⟨belowK_b (w := W0) (by omega) W l o o' hl ho hc hw, World.putObj_heap_other (by omega)⟩) (Below.refl _ _) (fun _ => rfl)
    (fun pre W => (Boxed W (w.heap.size + 1) 3 (.int .i64 (acc d pre)) ∧ (Boxed W w.heap.size 4 (.bool d) ∧ Boxed W (w.heap.size + 1 + 1) 87 (.slice A L.length c))) ∧ Below w.heap.size w W)
    (fun _ _ _ => False)
    (OwnFrom.and (OwnFrom.and (Own.from (boxed_own _ _ _) _) (OwnFrom.and (Own.from (boxed_own _ _ _) _) (Own.from (boxed_own _ _ _) _))) (ownFrom_below (Nat.le_refl _) (by omega)))
    (fun _ _ _ _ _ hs _ _ => hs)
    ⟨⟨bS, bD, bL⟩, hB0⟩
    (fun x a' W => ∃ Bx, w.heap.size + 2 < Bx ∧ W.heap[Bx]? = some (.cells #[.int .i64 x.p.w, .int .i64 x.p.h, .int .i64 x.p.s, .bool x.p.fx, .bool x.p.fy, .bool x.p.ex, .int .i64 x.p.an, .int .i64 x.p.px, .int .i64 x.p.py] 80 (0, 0)) ∧ a' = { tmps := #[.slice A L.length c, .bool d, undef, .pointer (some ⟨w.heap.size, 0, none⟩), .int .i64 0, .pointer (some ⟨w.heap.size + 1, 0, none⟩), undef, .pointer (some ⟨Bx, 0, none⟩), .slice A L.length c, .func (.func 202) #[] #[.pointer (some ⟨w.heap.size + 1 + 1, 0, none⟩)], .int .i64 x.i, .agg #[.int .i64 x.p.w, .int .i64 x.p.h, .int .i64 x.p.s, .bool x.p.fx, .bool x.p.fy, .bool x.p.ex, .int .i64 x.p.an, .int .i64 x.p.px, .int .i64 x.p.py], undef, undef, undef, undef, undef, undef, undef, undef, undef, undef, undef, undef, undef, undef, undef], defers := [] })
    (fun x a' _ X Y row hs hg hr => by
      obtain ⟨Bx, h1, h2, h3⟩ := hs
      exact ⟨Bx, h1, (hg.block Bx (Array.getElem?_eq_some_iff.1 h2).1 (fun e => by
        obtain ⟨_, o, ho, hoc⟩ := hr Bx e.symm
        rw [h2] at ho
        obtain rfl := Option.some.inj ho
        simp [Obj.isCells] at hoc)).trans h2, h3⟩)
    ?assign ?body ?done ?stop
  case assign =>
    rintro l pre x W K ⟨⟨bS1, bD1, bL1⟩, hB1⟩ hK
    have hlt2 := bL1.lt
    simp only [encB]
    gi_wp2
    refine hK _ _ ((KeepsOthers.alloc _ _).from _) ⟨(Below.refl _ W).alloc hB1.size _, Below.heap_alloc _ _ _ (by omega)⟩ ⟨⟨bS1.alloc _, bD1.alloc _, bL1.alloc _⟩, hB1.alloc hB1.size _⟩ ⟨W.heap.size, by omega, heap_new _ _, rfl⟩
  case body =>
    rintro l pre x a' W hl ⟨r, hr⟩ ⟨⟨bS1, bD1, bL1⟩, hB1⟩ ⟨Bx, hBx, hX, rfl⟩ hlt
    have cS := bS1.cell
    have fS := bS1.frozen
    have cD := bD1.cell
    have sS := bS1.lt
    have sD := bD1.lt
    have sL := bL1.lt
    have sX : Bx < W.heap.size := (Array.getElem?_eq_some_iff.1 hX).1
    obtain ⟨a1, a2⟩ := acc_bd d pre
    have nb := Pk.need_bdW x.ok d
    obtain ⟨c0, c1, c2, c3, c4, c5, c6, c7, c8⟩ := b9c hX
    have hmx : Tryz.prog.follows .mixedOrders = true := by kernel_rfl
    have hn1 : 1 ≤ 6 - 1 - 1 := by omega
    have hl0 : w.heap.size ≤ W.heap.size := hB1.size
    cases d <;> cases hdn : x.p.down
    · have hacc := acc_same (ys := pre) (x := x) (d := false) hdn
      have HA := Lib.hid hacc
      clear hacc
      gi_wp2
      gi_region_with_o (refine ⟨trivial, ?_⟩; gi_at_call 156; refine (CallsIn.inRound l (callsIn_wide.2 (isDown_b x.p false hdn _))).mono ?_; rintro e w1 ⟨rfl, hb1⟩; have b1 := bdr hb1; have kD := (b1.cell (p := ⟨w.heap.size, 0, none⟩) sD).trans cD; have kS := (b1.cell (p := ⟨w.heap.size + 1, 0, none⟩) sS).trans cS; have kX := (b1.block Bx sX).trans hX; obtain ⟨k0, k1, k2, k3, k4, k5, k6, k7, k8⟩ := b9c kX; have z1 := b1.size; have tS := Nat.lt_of_lt_of_le sS z1; have tD := Nat.lt_of_lt_of_le sD z1)
      all_goals
        gi_wp2
        gi_region_with_o (refine ⟨trivial, ?_⟩; gi_at_call 197; refine (CallsIn.inRound l (callsIn_wide.2 (need_w x.p false _ x.ok))).mono ?_; rintro e w2 ⟨rfl, hb2⟩; have b2 := b1.trans ((bdr hb2).mono z1); have jD := (b2.cell (p := ⟨w.heap.size, 0, none⟩) sD).trans cD; have jS := (b2.cell (p := ⟨w.heap.size + 1, 0, none⟩) sS).trans cS; have fS2 := (b2.frozen (p := ⟨w.heap.size + 1, 0, none⟩) sS).trans fS; clear kS kD k0 k1 k2 k3 k4 k5 k6 k7 k8)
        all_goals
          gi_wp2
          all_goals (try go_bits)
          all_goals exact round_end b2 bS1 bD1 bL1 hB1 hl0 HA.out
    · have hacc := acc_other (ys := pre) (x := x) (d := false) (by simp [hdn])
      have HA := Lib.hid hacc
      clear hacc
      gi_wp2
      gi_region_with_o (refine ⟨trivial, ?_⟩; gi_at_call 156; refine (CallsIn.inRound l (callsIn_wide.2 (isDown_b x.p true hdn _))).mono ?_; rintro e w1 ⟨rfl, hb1⟩; have b1 := bdr hb1; have kD := (b1.cell (p := ⟨w.heap.size, 0, none⟩) sD).trans cD; have kS := (b1.cell (p := ⟨w.heap.size + 1, 0, none⟩) sS).trans cS; have kX := (b1.block Bx sX).trans hX; obtain ⟨k0, k1, k2, k3, k4, k5, k6, k7, k8⟩ := b9c kX; have z1 := b1.size; have tS := Nat.lt_of_lt_of_le sS z1; have tD := Nat.lt_of_lt_of_le sD z1)
      all_goals
        gi_wp2
        gi_region_with_o (refine ⟨trivial, ?_⟩; gi_at_call 197; refine (CallsIn.inRound l (callsIn_wide.2 (need_w x.p false _ x.ok))).mono ?_; rintro e w2 ⟨rfl, hb2⟩; have b2 := b1.trans ((bdr hb2).mono z1); have jD := (b2.cell (p := ⟨w.heap.size, 0, none⟩) sD).trans cD; have jS := (b2.cell (p := ⟨w.heap.size + 1, 0, none⟩) sS).trans cS; have fS2 := (b2.frozen (p := ⟨w.heap.size + 1, 0, none⟩) sS).trans fS; clear kS kD k0 k1 k2 k3 k4 k5 k6 k7 k8)
        all_goals
          gi_wp2
          all_goals (try go_bits)
          all_goals exact round_end b2 bS1 bD1 bL1 hB1 hl0 HA.out
    · have hacc := acc_other (ys := pre) (x := x) (d := true) (by simp [hdn])
      have HA := Lib.hid hacc
      clear hacc
      gi_wp2
      gi_region_with_o (refine ⟨trivial, ?_⟩; gi_at_call 156; refine (CallsIn.inRound l (callsIn_wide.2 (isDown_b x.p false hdn _))).mono ?_; rintro e w1 ⟨rfl, hb1⟩; have b1 := bdr hb1; have kD := (b1.cell (p := ⟨w.heap.size, 0, none⟩) sD).trans cD; have kS := (b1.cell (p := ⟨w.heap.size + 1, 0, none⟩) sS).trans cS; have kX := (b1.block Bx sX).trans hX; obtain ⟨k0, k1, k2, k3, k4, k5, k6, k7, k8⟩ := b9c kX; have z1 := b1.size; have tS := Nat.lt_of_lt_of_le sS z1; have tD := Nat.lt_of_lt_of_le sD z1)
      all_goals
        gi_wp2
        gi_region_with_o (refine ⟨trivial, ?_⟩; gi_at_call 197; refine (CallsIn.inRound l (callsIn_wide.2 (need_w x.p true _ x.ok))).mono ?_; rintro e w2 ⟨rfl, hb2⟩; have b2 := b1.trans ((bdr hb2).mono z1); have jD := (b2.cell (p := ⟨w.heap.size, 0, none⟩) sD).trans cD; have jS := (b2.cell (p := ⟨w.heap.size + 1, 0, none⟩) sS).trans cS; have fS2 := (b2.frozen (p := ⟨w.heap.size + 1, 0, none⟩) sS).trans fS; clear kS kD k0 k1 k2 k3 k4 k5 k6 k7 k8)
        all_goals
          gi_wp2
          all_goals (try go_bits)
          all_goals exact round_end b2 bS1 bD1 bL1 hB1 hl0 HA.out
    · have hacc := acc_same (ys := pre) (x := x) (d := true) hdn
      have HA := Lib.hid hacc
      clear hacc
      gi_wp2
      gi_region_with_o (refine ⟨trivial, ?_⟩; gi_at_call 156; refine (CallsIn.inRound l (callsIn_wide.2 (isDown_b x.p true hdn _))).mono ?_; rintro e w1 ⟨rfl, hb1⟩; have b1 := bdr hb1; have kD := (b1.cell (p := ⟨w.heap.size, 0, none⟩) sD).trans cD; have kS := (b1.cell (p := ⟨w.heap.size + 1, 0, none⟩) sS).trans cS; have kX := (b1.block Bx sX).trans hX; obtain ⟨k0, k1, k2, k3, k4, k5, k6, k7, k8⟩ := b9c kX; have z1 := b1.size; have tS := Nat.lt_of_lt_of_le sS z1; have tD := Nat.lt_of_lt_of_le sD z1)
      all_goals
        gi_wp2
        gi_region_with_o (refine ⟨trivial, ?_⟩; gi_at_call 197; refine (CallsIn.inRound l (callsIn_wide.2 (need_w x.p true _ x.ok))).mono ?_; rintro e w2 ⟨rfl, hb2⟩; have b2 := b1.trans ((bdr hb2).mono z1); have jD := (b2.cell (p := ⟨w.heap.size, 0, none⟩) sD).trans cD; have jS := (b2.cell (p := ⟨w.heap.size + 1, 0, none⟩) sS).trans cS; have fS2 := (b2.frozen (p := ⟨w.heap.size + 1, 0, none⟩) sS).trans fS; clear kS kD k0 k1 k2 k3 k4 k5 k6 k7 k8)
        all_goals
          gi_wp2
          all_goals (try go_bits)
          all_goals exact round_end b2 bS1 bD1 bL1 hB1 hl0 HA.out
  case done =>
    rintro D ys W hD hys ⟨⟨bS1, bD1, bL1⟩, hB1⟩ hK
    have cS := bS1.cell
    rw [acc_req hys] at cS
    gi_wp2
    refine ⟨by simp, .inl ⟨_, _, rfl, run_takeDeferred hK, ?_⟩⟩
    exact ⟨_, results_tmp rfl _ _ _, rfl, hB1.trans (belowK_b (w := w) (Nat.le_refl _) W D _ _ (by omega) hK rfl rfl)⟩
  case stop =>
    rintro D c pre W _ _ h _
    exact h.elim
end Go.Proofs.YtgdkionmeacalaaGreat
end
