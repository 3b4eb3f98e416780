import Derived.Test.YtgdkionmeacalabQ06
import Derived.OwnWalk
import Derived.WalkSpells
import Derived.Laws.Cover3
import Derived.RangeFuncBox
import Derived.RangeFuncNested
import Derived.RangeFuncBound
import Derived.RangeFuncCalls
import Derived.RangeFuncLeaves
import Derived.Shelf.Abstract
import Derived.Shelf.RegionOpen
import Derived.WalkKit
import Derived.OwnWalkIn
import Derived.TacticsInMore
import Derived.LoopNIn
import Derived.LoopIn
import Derived.Maps.AppendAt
section
namespace Go.Proofs.Ytgdkionmeacalab
open Go.RowKit
set_option linter.unusedVariables false
set_option maxHeartbeats 4000000
attribute [local go_sem] growUpon_value growUpon_skip growUpon_enter
def upB (i : Nat) (n : Nd) : Bool := if i = 0 then decide (n.pa = -1) else rng n.pa 0 ((i : Int) - 1)
def clB (L : List Nd) (i : Nat) (n : Nd) : Bool := if i = 0 then true else match L[n.pa.toNat]? with
  | some u => decide (u.ki ≠ 1) || cellB u.cs.length u.rs.length n.ce
  | none => true
def nokB (L : List Nd) (i : Nat) : Bool := match L[i]? with
  | some n => ndB n && (upB i n && clB L i n)
  | none => true
def treeB (L : List Nd) : Bool := rng L.length 1 10 && (List.range L.length).all (nokB L)
theorem nokB_at {L : List Nd} {i : Nat} {n : Nd} (h : L[i]? = some n) : nokB L i = (ndB n && (upB i n && clB L i n)) := by unfold nokB; rw [h]
theorem range_all_succ {f : Nat → Bool} {k : Nat} : (List.range (k + 1)).all f = ((List.range k).all f && f k) := by
  rw [List.range_succ, List.all_append]; simp
theorem own_lines {n : Nd} (h : ndB n = true) (hk : n.ki = 1) : linesB n.cs = true ∧ linesB n.rs = true := by
  simp only [ndB, Bool.and_eq_true] at h
  have := h.2.2.1
  unfold ownB at this
  rw [if_pos hk] at this
  simpa [Bool.and_eq_true] using this
set_option maxRecDepth 100000 in
theorem hasParentAhead_v (A : Option Addr) (c : Nat) (R : List Nr) (i : Nat) (p : Nr) (b : Bool) (w : World) (h : NrV w A R) (hp : R[i]? = some p) (hL : R.length ≤ 10) (hb : upB i p.n = b) :
    Calls Try.prog 30 #[.agg #[.slice A R.length c], .int .i64 i] w fun e w' => e = .returned (.bool b) ∧ Below w.heap.size w w' := by
  have hi : i < R.length := (List.getElem?_eq_some_iff.1 hp).1
  obtain ⟨bl, off, rfl, hbl, hc⟩ := h.cells (by omega)
  have x0 : w.cell? ⟨bl, off + i * 34, none⟩ = some (.int .i64 p.n.pa) := hc i p hp 0 _ rfl
  have hii : (i : Int) < (R.length : Int) := by omega
  have hne : ¬ bl = w.heap.size := by omega
  unfold upB at hb
  clear hc h hp
  by_cases h0 : i = 0
  · subst h0
    rw [if_pos rfl] at hb
    simp only [Nat.zero_mul, Nat.add_zero] at x0
    have hlr : (0 : Int) < (R.length : Int) := by omega
    clear hii
    have e1 : (p.n.pa == -1) = b := by rw [← hb]; rfl
    have HE := Lib.hid e1
    clear hb e1
    go_enter Try.func30, Try.ntmps30
    go_wp2
    go_ret
    exact ⟨ret_bool HE.out, balloc (Below.refl _ _)⟩
  · rw [if_neg h0] at hb
    have e0 : ((i : Int) == 0) = false := by rw [beq_eq_false_iff_ne]; omega
    have e0' : decide ((i : Int) = 0) = false := decide_eq_false (by omega)
    go_enter Try.func30, Try.ntmps30
    go_wp2_with fail
    with_reducible refine (within_w p.n.pa 0 ((i : Int) - 1) b _ hb).mono ?_
    rintro e w' ⟨rfl, rfl⟩
    go_wp2
    go_ret
    exact ⟨rfl, balloc (Below.refl _ _)⟩
set_option maxRecDepth 100000 in
theorem hasValidCell_0 (A : Option Addr) (c n : Nat) (w : World) :
    Calls Try.prog 31 #[.agg #[.slice A n c], .int .i64 0] w fun e w' => e = .returned (.bool true) ∧ Below w.heap.size w w' := by
  go_enter Try.func31, Try.ntmps31
  go_wp2
  go_ret
  exact ⟨rfl, balloc (Below.refl _ _)⟩
set_option maxRecDepth 100000 in
theorem hasValidCell_s (A : Option Addr) (c : Nat) (R : List Nr) (i m : Nat) (p u : Nr) (b : Bool) (w : World) (h : NrV w A R) (hp : R[i]? = some p) (hL : R.length ≤ 10) (h0 : i ≠ 0) (hpa : p.n.pa = m) (hm : m < i) (hu : R[m]? = some u)
    (hl : u.n.ki = 1 → (1 ≤ u.n.cs.length ∧ u.n.cs.length ≤ 5) ∧ (1 ≤ u.n.rs.length ∧ u.n.rs.length ≤ 5)) (hb : (decide (u.n.ki ≠ 1) || cellB u.n.cs.length u.n.rs.length p.n.ce) = b) :
    Calls Try.prog 31 #[.agg #[.slice A R.length c], .int .i64 i] w fun e w' => e = .returned (.bool b) ∧ Below w.heap.size w w' := by
  have hi : i < R.length := (List.getElem?_eq_some_iff.1 hp).1
  obtain ⟨bl, off, rfl, hbl, hc⟩ := h.cells (by omega)
  have hB0 : Below w.heap.size w (w.alloc (.cells #[.slice (some ⟨bl, off, none⟩) R.length c] 25 (0, 0))) := balloc (Below.refl _ _)
  have HX := Lib.hid (newS w (.cells #[.slice (some ⟨bl, off, none⟩) R.length c] 25 (0, 0)))
  have HP := Lib.hid (rangeB (hc i p hp) (hB0.block bl hbl))
  have HU := Lib.hid (rangeB (hc m u hu) (hB0.block bl hbl))
  have HB := Lib.hid hB0
  have hii : (i : Int) < (R.length : Int) := by omega
  have hmm : (m : Int) < (R.length : Int) := by omega
  have e0 : ((i : Int) == 0) = false := by rw [beq_eq_false_iff_ne]; omega
  have e0' : decide ((i : Int) = 0) = false := decide_eq_false (by omega)
  have HPA := Lib.hid hpa
  have HBB := Lib.hid hb
  have HLL := Lib.hid hl
  clear hc h hp hu hpa hb hl hB0
  go_enter Try.func31, Try.ntmps31
  go_upto_region 3 with (fail)
  refine wp_genGG (fun W => W.heap[w.heap.size]? = some (.cells #[.slice (some ⟨bl, off, none⟩) R.length c] 25 (0, 0)) ∧ W.rangeAt bl (off + i * 34) (valsNr p) ∧ W.rangeAt bl (off + m * 34) (valsNr u) ∧ Below w.heap.size w W ∧ bl < W.heap.size) ⟨HX.out, HP.out, HU.out, HB.out, by simp; omega⟩ (fun W h0 => ?_)
  clear HX HP HU HB
  obtain ⟨hx, hp, hu, hb, hbw⟩ := h0
  have x0 := cellS hx 0
  have q0 : W.cell? ⟨bl, off + i * 34, none⟩ = some (.int .i64 (m : Int)) := by rw [← HPA.out]; exact hp 0 _ rfl
  have lx := ltS hx
  have HX := Lib.hid hx
  have HP := Lib.hid hp
  have HU := Lib.hid hu
  have HB := Lib.hid hb
  clear hx hp hu hb
  refine wp_region_grow 10 2 (· < 11) (by kernel_rfl) (by kernel_rfl) rfl ?_
  iterate 10 (refine wpG_step (fun K hK => ?_); first | (refine grow_ldN _ u bl (off + m * 34) rfl rfl rfl hbw (rangeB HU.out rfl) ?_; refine hK _ ?_; clear hK K) | (apply Exists.intro; refine ⟨.inl ⟨rfl, fun w' hw' => ?_⟩, ?_⟩; (focus ((obtain ⟨hc, hf⟩ := bcell hw'.out); (have hcS := bcellS hw'.out); go_simp <;> rfl)); (go_simp; refine hK _ ?_; clear hK K)))
  refine wpG_nil ?_
  refine wpK_one (i := 10) (by kernel_rfl) rfl rfl (by kernel_rfl) (fun w5 h5 => ?_)
  go_simp
  refine ⟨Gr.alloc _ _, ?_⟩
  refine wpK_tail (by kernel_rfl) (fun w9 h9 => ?_)
  refine wpAny_one (i := 11) (by kernel_rfl) rfl rfl ?_
  have hnew := (h9.out.block w5.heap.size (by simp)).trans (newS w5 _)
  refine wp_store_mid 39 (.tmp 5) (.tmp 17) rfl w5.heap.size 0 (valsNr u).toArray rfl rfl (thereB hnew (by show (0 + 34 : Nat) ≤ 34; omega)) (by kernel_rfl) (valsNr_all u) ?_
  refine wpAny_end (by kernel_rfl) ?_
  have hfull : (w9.setCells w5.heap.size 0 (valsNr u)).heap[w5.heap.size]? = some (.cells (valsNr u).toArray 39 (0, 0)) := by
    rw [heap_setCells (valsNr u) 0 w9 _ hnew, wrAt_all (by rfl)]
  have hlow : W.heap.size ≤ w5.heap.size := h5.out.size
  have hbel : Below W.heap.size W (w9.setCells w5.heap.size 0 (valsNr u)) :=
    below_setCells hlow _ _ _ (bgrow (balloc (bgrow (Below.refl _ _).drew h5)) h9)
  refine NoPan.gen (fun wf => W.heap.size ≤ w5.heap.size ∧ wf.heap[w5.heap.size]? = some (.cells (valsNr u).toArray 39 (0, 0)) ∧ Below W.heap.size W wf) ⟨hlow, hfull, hbel⟩ (fun wf hwf => ?_)
  clear hnew hfull hlow hbel h9
  obtain ⟨b5, hb5⟩ : ∃ b5, w5.heap.size = b5 := ⟨_, rfl⟩
  simp only [hb5] at hwf ⊢
  clear hb5 h5 w5 w9
  obtain ⟨hlow, hh5, hB⟩ := hwf
  replace HX := Lib.hid ((hB.block _ lx).trans HX.out)
  replace HP := Lib.hid (rangeB HP.out (hB.block _ hbw))
  replace HB := Lib.hid (bkeep2 HB.out hB)
  have hbw2 : bl < wf.heap.size := Nat.lt_of_lt_of_le hbw hB.size
  have H5 := Lib.hid hh5
  clear x0 q0 HU hh5 hB hbw
  have x0 := cellS HX.out 0
  have lx2 := ltS HX.out
  have k4 : wf.cell? ⟨b5, 4, none⟩ = some (.int .i64 u.n.ki) := cellS H5.out 4
  have k5 : wf.cell? ⟨b5, 5, none⟩ = some (.slice u.ca u.n.cs.length u.cc) := cellS H5.out 5
  have k6 : wf.cell? ⟨b5, 6, none⟩ = some (.slice u.ra u.n.rs.length u.rc) := cellS H5.out 6
  have l5 := ltS H5.out
  by_cases hk : u.n.ki = 1
  · have hb' : cellB u.n.cs.length u.n.rs.length p.n.ce = b := by rw [← HBB.out]; simp [hk]
    obtain ⟨⟨l1, l2⟩, l3, l4⟩ := HLL.out hk
    rw [hk] at k4
    have hce := node_ce HP.out
    have HCE := Lib.hid hce
    have HBR := Lib.hid hb'
    clear hk hce hb' HBB HLL
    go_upto_region 4 with (fail)
    refine wp_region_grow 18 1 (· < 18) (by kernel_rfl) (by kernel_rfl) rfl ?_
    iterate 18 (refine wpG_step (fun K hK => ?_); first | (refine grow_loadM 35 _ [.int .i64 p.n.ce.co, .int .i64 p.n.ce.ro, .int .i64 p.n.ce.mc, .int .i64 p.n.ce.mr, .int .i64 p.n.ce.cw, .int .i64 p.n.ce.ch, .int .i64 p.n.ce.sk, .int .i64 p.n.ce.px, .int .i64 p.n.ce.py] bl (off + i * 34 + 16) rfl rfl rfl Try.underlying35 rfl (by kernel_rfl) (fun w' hw' => rangeB HCE.out (hw'.out.block bl hbw2)) ?_; refine hK _ ?_; clear hK K) | (refine grow_skip rfl ?_; go_simp; refine hK _ ?_; clear hK K) | (apply Exists.intro; refine ⟨.inl ⟨rfl, fun w' hw' => ?_⟩, ?_⟩; (focus ((obtain ⟨hc, hf⟩ := bcell hw'.out); (have hcS := bcellS hw'.out); go_simp <;> first | rfl | (go_at_call 49; exact validCell_v p.n.ce u.n.cs.length u.n.rs.length b _ (by omega) (by omega) (by omega) (by omega) HBR.out))); (go_simp; refine hK _ ?_; clear hK K)))
    refine wpG_nil ?_
    refine wpK_tail (by kernel_rfl) (fun w9 hg9 => ?_)
    have hb9 := bdrewn hg9.out
    obtain ⟨hc9, hf9⟩ := bcell hb9
    refine wpAny_one (i := 18) (by kernel_rfl) rfl rfl ?_
    go_simp
    refine wpAny_end (by kernel_rfl) ?_
    refine NoPan.thn ?_
    clear hc9 hf9
    clear hg9
    replace HB := Lib.hid (bkeep2 HB.out hb9)
    clear hb9
    go_wp2
    go_ret
    exact ⟨rfl, HB.out⟩
  · have hb' : true = b := by rw [← HBB.out]; simp [hk]
    subst hb'
    have f1 : (u.n.ki == 1) = false := by rw [beq_eq_false_iff_ne]; exact hk
    have f2 : (u.n.ki != 1) = true := by simp [bne, f1]
    have f3 : decide (u.n.ki = 1) = false := decide_eq_false hk
    have HK := Lib.hid hk
    clear hk HBB HLL
    go_upto_region 4 with (fail)
    refine wp_region_grow 18 1 (· < 18) (by kernel_rfl) (by kernel_rfl) rfl ?_
    iterate 18 (refine wpG_step (fun K hK => ?_); first | (refine grow_skip rfl ?_; go_simp; refine hK _ ?_; clear hK K) | (apply Exists.intro; refine ⟨.inl ⟨rfl, fun w' hw' => ?_⟩, ?_⟩; (focus ((obtain ⟨hc, hf⟩ := bcell hw'.out); (have hcS := bcellS hw'.out); go_simp <;> first | rfl | (fail))); (go_simp; refine hK _ ?_; clear hK K)))
    refine wpG_nil ?_
    refine wpK_tail (by kernel_rfl) (fun w8 hg8 => ?_)
    have hb8 := bdrewn hg8.out
    obtain ⟨hc8, hf8⟩ := bcell hb8
    refine wpAny_one (i := 18) (by kernel_rfl) rfl rfl ?_
    go_simp
    refine wpAny_end (by kernel_rfl) ?_
    refine NoPan.thn ?_
    clear hc8 hf8
    clear hg8
    replace HB := Lib.hid (bkeep2 HB.out hb8)
    clear hb8
    go_wp2
    go_ret
    exact ⟨rfl, HB.out⟩
end Go.Proofs.Ytgdkionmeacalab
end
section
namespace Go.Proofs.Ytgdkionmeacalab
open Go.RowKit
set_option linter.unusedVariables false
set_option maxHeartbeats 4000000
theorem new_full {w : World} {o : Obj} {cs : Array Value} {T : TypeId} (p : Nr) (ho : o = .cells cs T (0, 0)) (hs : cs.size = 34) : ((w.alloc o).setCells w.heap.size 0 (valsNr p)).heap[w.heap.size]? = some (.cells (valsNr p).toArray T (0, 0)) := by
  subst ho
  rw [heap_setCells (valsNr p) 0 _ _ (newS w _), wrAt_all (by rw [hs]; rfl)]
theorem nok_kids {R : List Nr} {k : Nat} {p : Nr} (hall : (List.range k).all (nokB (R.map Nr.n)) = true) (hp : R[k]? = some p) (hup : upB k p.n = true) (h0 : k ≠ 0) :
    ∃ (m : Nat) (u : Nr), p.n.pa = m ∧ m < k ∧ R[m]? = some u ∧ (u.n.ki = 1 → (1 ≤ u.n.cs.length ∧ u.n.cs.length ≤ 5) ∧ (1 ≤ u.n.rs.length ∧ u.n.rs.length ≤ 5)) ∧ clB (R.map Nr.n) k p.n = (decide (u.n.ki ≠ 1) || cellB u.n.cs.length u.n.rs.length p.n.ce) := by
  unfold upB at hup
  rw [if_neg h0, rng_iff] at hup
  obtain ⟨m, hm⟩ := Int.eq_ofNat_of_zero_le hup.1
  have hmk : m < k := by omega
  have hkl := (List.getElem?_eq_some_iff.1 hp).1
  have hml : m < R.length := by omega
  have hu : R[m]? = some R[m] := List.getElem?_eq_getElem hml
  refine ⟨m, R[m], hm, hmk, hu, fun hk => ?_, ?_⟩
  · have h1 := List.all_eq_true.1 hall m (List.mem_range.2 hmk)
    rw [nokB_at (n := (R[m]).n) (by rw [List.getElem?_map, hu]; rfl)] at h1
    simp only [Bool.and_eq_true] at h1
    obtain ⟨l1, l2⟩ := own_lines h1.1 hk
    exact ⟨linesB_len' l1, linesB_len' l2⟩
  · unfold clB
    rw [if_neg h0, hm]
    simp only [Int.toNat_natCast]
    rw [List.getElem?_map, hu]
    rfl
set_option maxRecDepth 100000 in
theorem ValidTree_v (A : Option Addr) (c : Nat) (R : List Nr) (b : Bool) (w : World) (h : NrV w A R) (hr : RdR w R) (hL : R.length ≤ 1048576) (hm : ∀ p ∈ R, p.n.cs.length ≤ 1048576 ∧ p.n.rs.length ≤ 1048576) (hb : treeB (R.map Nr.n) = b) :
    Calls Try.prog 11 #[.agg #[.slice A R.length c]] w fun e w' => e = .returned (.bool b) ∧ Below w.heap.size w w' := by
  have hB0 : Below w.heap.size w (w.alloc (.cells #[.slice A R.length c] 25 (0, 0))) := balloc (Below.refl _ _)
  have HX := Lib.hid (newS w (.cells #[.slice A R.length c] 25 (0, 0)))
  have HB := Lib.hid hB0
  have HV := Lib.hid (h.keep hB0)
  have HR := Lib.hid (hr.keep hB0)
  have HM := Lib.hid hm
  have x0 := cellS HX.out 0
  have lx := ltS HX.out
  clear hB0 h hr hm
  cases hl : rng R.length 1 10
  · obtain rfl : false = b := by rw [← hb]; unfold treeB; rw [List.length_map, hl]; rfl
    go_enter Try.func11, Try.ntmps11
    go_wp2_with fail
    with_reducible refine (within_w _ 1 10 false _ hl).mono ?_
    rintro e w' ⟨rfl, rfl⟩
    go_wp2
    go_ret
    exact ⟨rfl, HB.out⟩
  · have hl2 : 1 ≤ R.length ∧ R.length ≤ 10 := by rw [rng_iff] at hl; omega
    have hb2 : (List.range R.length).all (nokB (R.map Nr.n)) = b := by rw [← hb]; unfold treeB; rw [List.length_map, hl]; rfl
    have HBB := Lib.hid hb2
    clear hb hb2
    obtain ⟨hl3, hl4⟩ := hl2
    go_enter Try.func11, Try.ntmps11
    go_wp2_with fail
    with_reducible refine (within_w _ 1 10 true _ hl).mono ?_
    rintro e w' ⟨rfl, rfl⟩
    go_wp2_with fail
    go_loopw [13] (fun i wr => ∃ k : Nat, k ≤ R.length ∧ i = .int .i64 k ∧ (List.range k).all (nokB (R.map Nr.n)) = true ∧ wr.heap[w.heap.size]? = some (.cells #[.slice A R.length c] 25 (0, 0)) ∧ NrV wr A R ∧ RdR wr R ∧ Below w.heap.size w wr) (fun i _ => R.length - (intOf i).toNat)
    case atStart => exact ⟨0, by omega, rfl, rfl, HX.out, HV.out, HR.out, HB.out⟩
    case round =>
      obtain ⟨k, hk, rfl, hall, hx, hv, hr, hB⟩ := hrel
      clear HX HV HR HB x0 lx
      by_cases hlt : k < R.length
      · have hd : decide ((k : Int) < (R.length : Int)) = true := by simpa using hlt
        have hget : R[k]? = some R[k] := List.getElem?_eq_getElem hlt
        obtain ⟨bl, off, rfl, hbl, hp⟩ := hv.cells (by omega)
        have hLR := hp k _ hget
        have hrd := hr _ (List.mem_of_getElem? hget)
        have hmm := HM.out _ (List.mem_of_getElem? hget)
        generalize R[k] = p at *
        obtain ⟨m1, m2⟩ := hmm
        have hnb : nokB (R.map Nr.n) k = (ndB p.n && (upB k p.n && clB (R.map Nr.n) k p.n)) := nokB_at (by rw [List.getElem?_map, hget]; rfl)
        have HNB := Lib.hid hnb
        have HLR := Lib.hid hLR
        have HG := Lib.hid hget
        have HALL := Lib.hid hall
        have HX := Lib.hid hx
        have HV := Lib.hid hv
        have HR := Lib.hid hr
        have HD := Lib.hid hrd
        have HB := Lib.hid hB
        have lx := ltS hx
        clear hget hp hLR hrd hall hx hv hr hB hnb
        go_upto_region 6 with (first | (refine ldN _ p bl (off + k * 34) rfl rfl rfl HLR.out ?_) | (refine stN (.tmp 4) (.tmp 17) p wr.heap.size 0 rfl rfl rfl rfl (newS _ _) (by show (0 + 34 : Nat) ≤ 34; omega) ?_))
        refine wp_genGG (fun W => W.heap[wr.heap.size]? = some (.cells (valsNr p).toArray 39 (0, 0)) ∧ Below wr.heap.size wr W) ⟨new_full p rfl rfl, below_setCells (Nat.le_refl _) _ _ _ (balloc (Below.refl _ _))⟩ (fun W h0 => ?_)
        obtain ⟨hn, hb⟩ := h0
        replace HX := Lib.hid ((hb.block _ lx).trans HX.out)
        replace HV := Lib.hid (HV.out.keep hb)
        replace HR := Lib.hid (HR.out.keep hb)
        replace HD := Lib.hid (HD.out.keep hb)
        replace HB := Lib.hid (bkeep2 HB.out hb)
        have HN := Lib.hid hn
        clear hn hb lx HLR
        cases h1 : ndB p.n
        · go_wp2_with (refine ldN _ p wr.heap.size 0 rfl rfl rfl (nodeAt HN.out) ?_)
          with_reducible refine (validNode_v p false _ HD.out m1 m2 h1).mono ?_
          rintro e w1 ⟨rfl, hb⟩
          replace HB := Lib.hid (bkeep2 HB.out hb)
          clear hb
          go_wp2
          go_ret
          exact ⟨ret_bool (by rw [← HBB.out]; exact (all_falseG (k := k) (p := k) (by rw [List.getElem?_range (by omega)]) (by rw [HNB.out, h1]; rfl)).symm), HB.out⟩
        · have hx0 := cellS HX.out 0
          go_wp2_with (refine ldN _ p wr.heap.size 0 rfl rfl rfl (nodeAt HN.out) ?_)
          with_reducible refine (validNode_v p true _ HD.out m1 m2 h1).mono ?_
          rintro e w1 ⟨rfl, hb⟩
          clear hx0
          replace HX := Lib.hid ((hb.block _ (Array.getElem?_eq_some_iff.1 HX.out).1).trans HX.out)
          replace HV := Lib.hid (HV.out.keep hb)
          replace HR := Lib.hid (HR.out.keep hb)
          replace HB := Lib.hid (bkeep2 HB.out hb)
          clear hb
          have hx0 := cellS HX.out 0
          cases h2 : upB k p.n
          · go_wp2_with fail
            with_reducible refine (hasParentAhead_v _ c R k p false _ HV.out HG.out hl4 h2).mono ?_
            rintro e w2 ⟨rfl, hb⟩
            clear hx0
            replace HB := Lib.hid (bkeep2 HB.out hb)
            clear hb
            go_wp2
            go_ret
            exact ⟨ret_bool (by rw [← HBB.out]; exact (all_falseG (k := k) (p := k) (by rw [List.getElem?_range (by omega)]) (by rw [HNB.out, h1, h2]; rfl)).symm), HB.out⟩
          · go_wp2_with fail
            with_reducible refine (hasParentAhead_v _ c R k p true _ HV.out HG.out hl4 h2).mono ?_
            rintro e w2 ⟨rfl, hb⟩
            clear hx0
            replace HX := Lib.hid ((hb.block _ (Array.getElem?_eq_some_iff.1 HX.out).1).trans HX.out)
            replace HV := Lib.hid (HV.out.keep hb)
            replace HR := Lib.hid (HR.out.keep hb)
            replace HB := Lib.hid (bkeep2 HB.out hb)
            clear hb
            have hx0 := cellS HX.out 0
            have hcv : ∀ cb, clB (R.map Nr.n) k p.n = cb → Calls Try.prog 31 #[.agg #[.slice (some ⟨bl, off, none⟩) R.length c], .int .i64 k] w2 fun e w' => e = .returned (.bool cb) ∧ Below w2.heap.size w2 w' := by
              intro cb hcb
              by_cases hz : k = 0
              · subst hz
                obtain rfl : true = cb := by rw [← hcb]; rfl
                exact hasValidCell_0 _ _ _ _
              · obtain ⟨m, u, e1, e2, e3, e4, e5⟩ := nok_kids HALL.out HG.out h2 hz
                exact hasValidCell_s _ c R k m p u cb _ HV.out HG.out hl4 hz e1 e2 e3 e4 (by rw [← e5]; exact hcb)
            cases h3 : clB (R.map Nr.n) k p.n
            · have HC := Lib.hid (hcv false h3)
              clear hcv
              go_wp2_with fail
              with_reducible refine (HC.out).mono ?_
              rintro e w3 ⟨rfl, hb⟩
              clear hx0 HC
              replace HB := Lib.hid (bkeep2 HB.out hb)
              clear hb
              go_wp2
              go_ret
              exact ⟨ret_bool (by rw [← HBB.out]; exact (all_falseG (k := k) (p := k) (by rw [List.getElem?_range (by omega)]) (by rw [HNB.out, h1, h2, h3]; rfl)).symm), HB.out⟩
            · have HC := Lib.hid (hcv true h3)
              clear hcv
              go_wp2_with fail
              with_reducible refine (HC.out).mono ?_
              rintro e w3 ⟨rfl, hb⟩
              clear hx0 HC
              replace HX := Lib.hid ((hb.block _ (Array.getElem?_eq_some_iff.1 HX.out).1).trans HX.out)
              replace HV := Lib.hid (HV.out.keep hb)
              replace HR := Lib.hid (HR.out.keep hb)
              replace HB := Lib.hid (bkeep2 HB.out hb)
              clear hb
              go_wp2
              go_roundw
              case rel => exact ⟨k + 1, by omega, by go_num, by rw [range_all_succ, HALL.out, HNB.out, h1, h2, h3]; rfl, HX.out, HV.out, HR.out, HB.out⟩
              case measure => simp [intOf]; omega
      · have hd : decide ((k : Int) < (R.length : Int)) = false := decide_eq_false (by omega)
        obtain rfl : k = R.length := by omega
        have HB := Lib.hid hB
        have HALL := Lib.hid hall
        clear hx hv hr hB hall
        go_wp2
        go_ret
        exact ⟨ret_bool (by rw [← HBB.out, HALL.out]), HB.out⟩
end Go.Proofs.Ytgdkionmeacalab
end
section
namespace Go.Proofs.Ytgdkionmeacalab
open Go Go.RowKit
set_option linter.unusedVariables false
set_option linter.unusedSimpArgs false
set_option maxHeartbeats 4000000
attribute [local go_sem] growUpon_value growUpon_skip growUpon_enter
attribute [local go_sem] givesUpon_value givesUpon_skip givesUpon_enter
theorem afAdd (b off n : Nat) : (⟨b, off, none⟩ : Addr).add n = ⟨b, off + n, none⟩ := by
  unfold Addr.add
  split
  · rename_i h; subst h; rfl
  · rfl
theorem eqlLn (a : Option Addr) (l c : Nat) (w : World) : (binOp .eql 31 (.slice a l c) (.slice none 0 0)).run Try.prog w = .ok (.bool a.isNone) w := by
  simp only [binOp]
  simp [run_equal_slice_nil (P := Try.prog) w 31 92 a l c Try.underlying31]
theorem afFlat {k : Nat} : ∀ {R : List (List Value)} {i j : Nat} {vs : List Value} {u : Value}, (∀ vs ∈ R, vs.length = k) → R[i]? = some vs → vs[j]? = some u → R.flatten[i * k + j]? = some u
  | x :: t, 0, j, vs, u, hl, h, hj => by
    simp at h
    subst h
    have := (List.getElem?_eq_some_iff.1 hj).1
    rw [Nat.zero_mul, Nat.zero_add, List.flatten_cons, List.getElem?_append_left this]
    exact hj
  | x :: t, i + 1, j, vs, u, hl, h, hj => by
    have hx := hl x List.mem_cons_self
    rw [List.getElem?_cons_succ] at h
    have := afFlat (fun vs hv => hl vs (List.mem_cons_of_mem _ hv)) h hj
    rw [List.flatten_cons, List.getElem?_append_right (by rw [hx, Nat.add_mul]; omega), hx, show (i + 1) * k + j - k = i * k + j from by rw [Nat.add_mul]; omega]
    exact this
theorem afOwn {w : World} {base k n : Nat} {T : TypeId} {v : Value} {R : List (List Value)} (h : w.ownsRow base T k v n R.flatten) (hn : n = R.length) (hl : ∀ vs ∈ R, vs.length = k) : ∃ A c, v = .slice A n c ∧ (0 < R.length → ∃ b, A = some ⟨b, 0, none⟩ ∧ base ≤ b ∧ b < w.heap.size ∧ ∀ i vs, R[i]? = some vs → w.rangeAt b (0 + i * k) vs) ∧ n ≤ c := by
  rcases h.2 with ⟨rfl, h0⟩ | ⟨g, cap, cur, rfl, hb, hg, hc, _, hs, ht⟩
  · have : R = [] := List.length_eq_zero_iff.1 (by omega)
    subst this
    exact ⟨none, 0, by rw [h0], fun h => absurd h (by simp), by omega⟩
  · refine ⟨_, cap, rfl, fun _ => ⟨g, rfl, hb, ltS hg, fun i vs hi j u hj => ?_⟩, hc⟩
    have e := afFlat hl hi hj
    rw [← ht, List.getElem?_take] at e
    split at e
    · rw [Nat.zero_add]
      exact (cellS hg _).trans (by simpa using e)
    · cases e
def lvals (L : List Ln) : List Value := (L.map valsLn).flatten
theorem lvals_len : ∀ L : List Ln, (lvals L).length = L.length * 2
  | [] => rfl
  | p :: t => by
    have := lvals_len t
    show (valsLn p ++ lvals t).length = _
    rw [List.length_append, this, List.length_cons]
    show 2 + _ = _
    omega
theorem lvals_one (L : List Ln) : ∀ u ∈ lvals L, u.oneCell' = true := by
  intro u hu
  unfold lvals at hu
  obtain ⟨vs, h1, h2⟩ := List.mem_flatten.1 hu
  obtain ⟨p, _, rfl⟩ := List.mem_map.1 h1
  simp only [valsLn, List.mem_cons, List.not_mem_nil, or_false] at h2
  rcases h2 with rfl | rfl <;> rfl
theorem lvals_at : ∀ (L : List Ln) (j : Nat) (u : Value), (lvals L)[j]? = some u → ∃ (i : Nat) (p : Ln), L[i]? = some p ∧ ((j = i * 2 ∧ u = .int .i64 p.wt) ∨ (j = i * 2 + 1 ∧ u = .int .i64 p.mi))
  | [], j, u, h => by simp [lvals] at h
  | p :: t, 0, u, h => ⟨0, p, rfl, .inl ⟨rfl, (Option.some.inj (h : some _ = some u)).symm⟩⟩
  | p :: t, 1, u, h => ⟨0, p, rfl, .inr ⟨rfl, (Option.some.inj (h : some _ = some u)).symm⟩⟩
  | p :: t, j + 2, u, h => by
    obtain ⟨i, q, h1, h2⟩ := lvals_at t j u h
    refine ⟨i + 1, q, by simpa using h1, ?_⟩
    rcases h2 with ⟨rfl, e⟩ | ⟨rfl, e⟩
    · exact .inl ⟨by omega, e⟩
    · exact .inr ⟨by omega, e⟩
/-- lines in a block from lo on -/
def LnW (lo : Nat) (w : World) (A : Option Addr) (L : List Ln) : Prop := 0 < L.length → ∃ b off, A = some ⟨b, off, none⟩ ∧ lo ≤ b ∧ b < w.heap.size ∧ ∀ i p, L[i]? = some p → w.cell? ⟨b, off + i * 2, none⟩ = some (.int .i64 p.wt) ∧ w.cell? ⟨b, off + i * 2 + 1, none⟩ = some (.int .i64 p.mi)
theorem LnW.v {lo : Nat} {w : World} {A : Option Addr} {L : List Ln} (h : LnW lo w A L) : LnV w A L := ⟨fun h0 => let ⟨b, off, e, _, hb, hp⟩ := h h0; ⟨b, off, e, hb, hp⟩⟩
theorem LnW.same {lo : Nat} {w w' : World} {A : Option Addr} {L : List Ln} (h : LnW lo w A L) (hs : ∀ b, lo ≤ b → b < w.heap.size → w'.heap[b]? = w.heap[b]?) (hl : w.heap.size ≤ w'.heap.size) : LnW lo w' A L := fun h0 => by
  obtain ⟨b, off, e, h1, h2, hp⟩ := h h0
  refine ⟨b, off, e, h1, by omega, fun i p hi => ?_⟩
  obtain ⟨c0, c1⟩ := hp i p hi
  exact ⟨(World.cell?_of_block (a := ⟨b, _, none⟩) (hs b h1 h2)).trans c0, (World.cell?_of_block (a := ⟨b, _, none⟩) (hs b h1 h2)).trans c1⟩
theorem LnW.keep {lo : Nat} {w w' : World} {A : Option Addr} {L : List Ln} (h : LnW lo w A L) (hb : Below w.heap.size w w') : LnW lo w' A L := h.same (fun b _ hl => hb.block b hl) hb.size
theorem LnW.set {lo g o : Nat} {w : World} {A : Option Addr} {L : List Ln} (h : LnW lo w A L) (hg : g < lo) (v : Value) : LnW lo (w.setCell ⟨g, o, none⟩ v) A L := h.same (fun b h1 _ => Below.heap_setCell _ ⟨g, o, none⟩ _ _ (by simp; omega)) (by simp [World.setCell])
theorem LnW.mono {lo lo' : Nat} {w : World} {A : Option Addr} {L : List Ln} (h : LnW lo w A L) (hl : lo' ≤ lo) : LnW lo' w A L := fun h0 => let ⟨b, off, e, h1, h2⟩ := h h0; ⟨b, off, e, by omega, h2⟩
/-- a slice that reads as these lines, with room or none -/
def LnR (lo : Nat) (w : World) (v : Value) (L : List Ln) : Prop := ∃ A c, v = .slice A L.length c ∧ LnW lo w A L ∧ L.length ≤ c
theorem LnR.keep {lo : Nat} {w w' : World} {v : Value} {L : List Ln} (h : LnR lo w v L) (hb : Below w.heap.size w w') : LnR lo w' v L := let ⟨A, c, e, k, l⟩ := h; ⟨A, c, e, k.keep hb, l⟩
theorem LnR.mono {lo lo' : Nat} {w : World} {v : Value} {L : List Ln} (h : LnR lo w v L) (hl : lo' ≤ lo) : LnR lo' w v L := let ⟨A, c, e, k, l⟩ := h; ⟨A, c, e, k.mono hl, l⟩
theorem LnR.own {w : World} {base : Nat} {v : Value} {L : List Ln} (h : w.ownsRow base 92 2 v L.length (lvals L)) : LnR base w v L := by
  obtain ⟨A, c, e, hr, hc⟩ := afOwn h (by rw [List.length_map]) (fun vs hv => by obtain ⟨p, _, rfl⟩ := List.mem_map.1 hv; rfl)
  refine ⟨A, c, e, fun h0 => ?_, hc⟩
  obtain ⟨b, e, h1, h2, hp⟩ := hr (by rwa [List.length_map])
  refine ⟨b, 0, e, h1, h2, fun i p hi => ?_⟩
  have hr := hp i (valsLn p) (by rw [List.getElem?_map, hi]; rfl)
  exact ⟨hr 0 _ rfl, hr 1 _ rfl⟩
theorem line_info : ∃ (i : TypeInfo) (z : Value), Try.prog.info? 92 = some i ∧ i.zero = some z ∧ i.size = 2 ∧ i.bytes = 16 ∧ z.cells.size = 2 := by
  have h : (Try.prog.info? 92).map (fun i => (i.size, i.bytes, i.zero.map (fun z => z.cells.size))) = some (2, 16, some 2) := by kernel_rfl
  cases hq : Try.prog.info? 92 with
  | none => rw [hq] at h; cases h
  | some i =>
    rw [hq] at h
    simp only [Option.map_some, Option.some.injEq, Prod.mk.injEq] at h
    obtain ⟨e1, e2, e3⟩ := h
    cases hz : i.zero with
    | none => rw [hz] at e3; cases e3
    | some z => rw [hz] at e3; exact ⟨i, z, rfl, hz, e1, e2, by simpa using e3⟩
theorem ln_src {w w' : World} {b off : Nat} {L : List Ln} (hb : b < w.heap.size) (hp : ∀ i p, L[i]? = some p → w.cell? ⟨b, off + i * 2, none⟩ = some (.int .i64 p.wt) ∧ w.cell? ⟨b, off + i * 2 + 1, none⟩ = some (.int .i64 p.mi)) (h : Below w.heap.size w w') : ∀ j u, (lvals L)[j]? = some u → w'.cell? ((⟨b, off, none⟩ : Addr).add j) = some u := fun j u hj => by
  obtain ⟨i, p, h1, h2⟩ := lvals_at L j u hj
  obtain ⟨c0, c1⟩ := hp i p h1
  rw [afAdd]
  rcases h2 with ⟨rfl, rfl⟩ | ⟨rfl, rfl⟩
  · exact (h.cell (p := ⟨b, off + i * 2, none⟩) hb).trans c0
  · rw [← Nat.add_assoc]
    exact (h.cell (p := ⟨b, off + i * 2 + 1, none⟩) hb).trans c1
theorem LnV.none_nil {w : World} {L : List Ln} (h : LnV w none L) : L = [] := by
  cases L with
  | nil => rfl
  | cons p t =>
    obtain ⟨b, off, e, _⟩ := h.cells (by simp)
    cases e
set_option maxRecDepth 100000 in
theorem cloneLn_v (A : Option Addr) (c n : Nat) (L : List Ln) (w : World) (h : LnV w A L) (hn : n = L.length) (hL : L.length ≤ 1048576) :
    Calls Try.prog 54 #[.slice A n c] w fun e w' => (∃ v, e = .returned v ∧ LnR w.heap.size w' v L) ∧ Below w.heap.size w w' := by
  subst hn
  cases A with
  | none =>
    obtain rfl := h.none_nil
    have hen : ∀ w, (binOp .eql 31 (.slice none 0 c) (.slice none 0 0)).run Try.prog w = .ok (.bool true) w := fun w => eqlLn none 0 c w
    clear h
    go_enter Try.func54, Try.ntmps54
    go_wp2
    go_ret
    exact ⟨⟨_, rfl, none, 0, rfl, fun h => absurd h (by simp), Nat.le_refl _⟩, Below.refl _ _⟩
  | some a =>
    have hen : ∀ w, (binOp .eql 31 (.slice (some a) L.length c) (.slice none 0 0)).run Try.prog w = .ok (.bool false) w := fun w => eqlLn (some a) L.length c w
    obtain ⟨ti, tz, ti1, ti2, ti3, ti4, ti5⟩ := line_info
    have hB0 : Below w.heap.size w (w.alloc (.cells #[] 92 (0, 0))) := balloc (Below.refl _ _)
    have ho0 : (w.alloc (.cells #[] 92 (0, 0))).ownsRow w.heap.size 92 2 (.slice (some ⟨w.heap.size, 0, none⟩) 0 0) 0 (lvals []) := World.ownsRow_lit (base := w.heap.size) (e := 92) (size := 2) w #[] 0 (Nat.le_refl _) (by decide) rfl
    have hsrc : ∀ j u, (lvals L)[j]? = some u → (w.alloc (.cells #[] 92 (0, 0))).cell? (a.add j) = some u := fun j u hj => by
      by_cases hl : 0 < L.length
      · obtain ⟨b, off, e, hb, hp⟩ := h.cells hl
        obtain rfl := Option.some.inj e
        exact ln_src hb hp hB0 j u hj
      · obtain rfl : L = [] := List.length_eq_zero_iff.1 (by omega)
        simp [lvals] at hj
    have hob := ho0.lt
    have HO := Lib.hid ho0
    have HSRC := Lib.hid hsrc
    have HNV := Lib.hid (lvals_len L)
    have h1c := Lib.hid (lvals_one L)
    clear hsrc hB0 ho0 h
    go_enter Try.func54, Try.ntmps54
    go_wp2_with (at_builtin; refine wpList_append_own _ rfl _ _ 31 rfl w.heap.size 92 ti tz 2 16 Try.underlying31 ti1 ti2 ti3 ti4 ti5 (by decide) _ _ _ rfl HO.out a L.length c (lvals L) rfl HNV.out HSRC.out h1c.out (by simp only [maxLen]; omega) (by omega) (by simp) ?_)
    intro v5 w5 how5 hgr5 _
    have hnv0 : lvals [] ++ lvals L = lvals L := by simp [lvals]
    simp only [hnv0, Nat.zero_add] at how5
    have HB5 := Lib.hid (below_own (o := .cells #[] 92 (0, 0)) (W := w) (a := w) (n := w.heap.size) (Below.refl _ _) hgr5 hob (Nat.le_refl _) (Nat.le_refl _))
    have HR := Lib.hid (LnR.own how5)
    clear how5 hgr5 hnv0 HO HSRC hob h1c hen
    go_wp2
    go_ret
    exact ⟨⟨_, rfl, HR.out⟩, HB5.out⟩
theorem afRet {P : Program} {fn : Func} {R : Ending → World → Prop} {a : Act} {w : World} (t : Nat) (T : TypeId) (g : Nat) (vs : List Value) {d : TypeDesc} (hr : fn.results = #[.cell t T]) (ht : a.tmps.getD t undef = .pointer (some ⟨g, 0, none⟩)) (hc : w.rangeAt g 0 vs) (hu : P.underlying T = some d) (hd : d.isRow = true) (hi : (P.info? T).map (·.size) = some vs.length) (h0 : a.defers = []) (hR : R (.returned (.agg vs.toArray)) w) : bodyPost P fn R .ret a w := by
  refine bodyPost_ret (v := .agg vs.toArray) ?_ h0 hR
  have ht' : a.tmps[t]?.getD undef = .pointer (some ⟨g, 0, none⟩) := by rw [← Array.getD_eq_getD_getElem?]; exact ht
  simp [results, hr, ht', asAddr, run_loadVar_mid w g 0 T vs d hc hu hd hi]
/-- the lines of a widget lie from lo on -/
structure RdW (lo : Nat) (w : World) (p : Nr) : Prop where
  c : LnW lo w p.ca p.n.cs
  cl : p.n.cs.length ≤ p.cc
  r : LnW lo w p.ra p.n.rs
  rl : p.n.rs.length ≤ p.rc
theorem RdW.v {lo : Nat} {w : World} {p : Nr} (h : RdW lo w p) : RdN w p := ⟨h.c.v, h.cl, h.r.v, h.rl⟩
theorem RdW.keep {lo : Nat} {w w' : World} {p : Nr} (h : RdW lo w p) (hb : Below w.heap.size w w') : RdW lo w' p := ⟨h.c.keep hb, h.cl, h.r.keep hb, h.rl⟩
theorem RdW.mono {lo lo' : Nat} {w : World} {p : Nr} (h : RdW lo w p) (hl : lo' ≤ lo) : RdW lo' w p := ⟨h.c.mono hl, h.cl, h.r.mono hl, h.rl⟩
theorem RdW.sets {lo g : Nat} {w : World} {p : Nr} (h : RdW lo w p) (hg : g < lo) (o : Nat) (vs : List Value) : RdW lo (w.setCells g o vs) p := ⟨h.c.same (fun k hk _ => heap_setCells_ne (by omega) _ _ _) (by rw [size_setCellsT]; exact Nat.le_refl _), h.cl, h.r.same (fun k hk _ => heap_setCells_ne (by omega) _ _ _) (by rw [size_setCellsT]; exact Nat.le_refl _), h.rl⟩
theorem RdW.set {lo g : Nat} {w : World} {p : Nr} (h : RdW lo w p) (hg : g < lo) (o : Nat) (v : Value) : RdW lo (w.setCell ⟨g, o, none⟩ v) p := ⟨h.c.set hg v, h.cl, h.r.set hg v, h.rl⟩
/-- the node with lines of its own -/
def zeroNrF : Nr := ⟨⟨0, 0, 0, false, 0, [], [], ⟨0, 0, 0, false, false, false, 0, 0, 0⟩, ⟨0, 0, 0, 0, 0, 0, 0, 0, 0⟩, ⟨0, 0, 0, 0, 0, 0, 0, 0, 0⟩⟩, none, 0, none, 0⟩
def reN (p : Nr) (a : Option Addr) (ac : Nat) (b : Option Addr) (bc : Nat) : Nr := ⟨p.n, a, ac, b, bc⟩
theorem af_full {w : World} {g : Nat} {p : Nr} {T : TypeId} (h : w.heap[g]? = some (.cells (valsNr p).toArray T (0, 0))) (a : Option Addr) (ac : Nat) (b : Option Addr) (bc : Nat) : ((w.setCell ⟨g, 5, none⟩ (.slice a p.n.cs.length ac)).setCell ⟨g, 6, none⟩ (.slice b p.n.rs.length bc)).heap[g]? = some (.cells (valsNr (reN p a ac b bc)).toArray T (0, 0)) := putS (putS h _) _
set_option maxRecDepth 100000 in
theorem copied_v (p : Nr) (w : World) (h : RdN w p) (m1 : p.n.cs.length ≤ 1048576) (m2 : p.n.rs.length ≤ 1048576) :
    Calls Try.prog 40 #[.agg (valsNr p).toArray] w fun e w' => (∃ q : Nr, e = .returned (.agg (valsNr q).toArray) ∧ q.n = p.n ∧ RdW w.heap.size w' q) ∧ Below w.heap.size w w' := by
  have HD := Lib.hid h
  clear h
  go_enter Try.func40, Try.ntmps40
  go_upto_region 1 with fail
  refine wp_genGG (fun W => W.heap[w.heap.size]? = some (.cells (valsNr p).toArray 39 (0, 0)) ∧ (∃ z : Array Value, W.heap[w.heap.size + 1]? = some (.cells z 39 (0, 0)) ∧ z.size = 34) ∧ Below w.heap.size w W) ⟨(Below.heap_alloc _ _ _ (by simp)).trans (newS _ _), ⟨_, by have := newS (w.alloc (.cells (valsNr p).toArray 39)) (.cells (valsNr zeroNrF).toArray 39); rw [World.size_alloc] at this; exact this, rfl⟩, (balloc (Below.refl _ _)).trans ((balloc (Below.refl _ _)).mono (by simp))⟩ (fun W1 h1 => ?_)
  obtain ⟨hn, ⟨z, hz, hzs⟩, hb⟩ := h1
  have hw1 : w.heap.size + 2 ≤ W1.heap.size := ltS hz
  have HN := Lib.hid hn
  have HZ := Lib.hid hz
  have HB := Lib.hid hb
  replace HD := Lib.hid (HD.out.keep hb)
  have x5 : W1.cell? ⟨w.heap.size, 5, none⟩ = some (.slice p.ca p.n.cs.length p.cc) := cellS hn 5
  have x6 : W1.cell? ⟨w.heap.size, 6, none⟩ = some (.slice p.ra p.n.rs.length p.rc) := cellS hn 6
  have lx := ltS hn
  clear hn hz hb
  refine wp_region_any (by kernel_rfl) ?_
  refine wpAny_rxp 7 3 #[true, true, true, true, true, true, true, false, false, false] (by kernel_rfl) (by kernel_rfl) (XV (.pointer (some ⟨w.heap.size, 5, none⟩)) :: XV (.slice p.ca p.n.cs.length p.cc) :: (fun v z => LnR (w.heap.size + 2) z v p.n.cs) :: XV (.pointer (some ⟨w.heap.size, 6, none⟩)) :: XV (.slice p.ra p.n.rs.length p.rc) :: (fun v z => LnR (w.heap.size + 2) z v p.n.rs) :: XV (.pointer (some ⟨w.heap.size, 5, none⟩)) :: []) (by kernel_rfl) (by kernel_rfl) ?hTs ?hops ?hfin
  case hTs =>
    intro T hT
    simp only [List.mem_cons, List.not_mem_nil, or_false] at hT
    rcases hT with rfl | rfl | rfl | rfl | rfl | rfl | rfl <;> first | exact stay_V _ | exact stay_T | exact stay_of (fun v a b x g => x.keep g) | exact stay_of (fun v a b x g => x)
  case hops =>
    refine ⟨opOK_rx [(1, none)] (by kernel_rfl) rfl ?_, ?_⟩
    · intro act w' hw' h1
      have hk : ∀ v, act.eval (.const v) = v := fun _ => rfl
      have hf : ∀ f, act.eval (.func f) = .func (.func f) #[] #[] := fun _ => rfl
      generalize act.eval = ρ at *
      replace h1 : ρ (.tmp 1) = .pointer (some ⟨w.heap.size, 0, none⟩) := h1
      refine gx_gen (fun K hK => ?_)
      obtain ⟨hc, hf'⟩ := bcell (bdrewn hw'.out)
      go_simp
      exact hK _ _ ⟨rfl, Gr.refl _⟩
    refine ⟨opOK_rx [(3, some 0)] (by kernel_rfl) rfl ?_, ?_⟩
    · intro act w' hw' h1
      have hk : ∀ v, act.eval (.const v) = v := fun _ => rfl
      have hf : ∀ f, act.eval (.func f) = .func (.func f) #[] #[] := fun _ => rfl
      generalize act.eval = ρ at *
      replace h1 : ρ (.tmp 3) = .pointer (some ⟨w.heap.size, 5, none⟩) := h1
      refine gx_gen (fun K hK => ?_)
      obtain ⟨hc, hf'⟩ := bcell (bdrewn hw'.out)
      go_simp
      exact hK _ _ ⟨rfl, Gr.refl _⟩
    refine ⟨opOK_rx [(4, some 1)] (by kernel_rfl) rfl ?_, ?_⟩
    · intro act w' hw' h1
      have hk : ∀ v, act.eval (.const v) = v := fun _ => rfl
      have hf : ∀ f, act.eval (.func f) = .func (.func f) #[] #[] := fun _ => rfl
      generalize act.eval = ρ at *
      replace h1 : ρ (.tmp 4) = .slice p.ca p.n.cs.length p.cc := h1
      refine gx_gen (fun K hK => ?_)
      obtain ⟨hc, hf'⟩ := bcell (bdrewn hw'.out)
      go_simp
      (refine (cloneLn_v p.ca p.cc _ p.n.cs _ (HD.out.c.keep (bdrewn hw'.out)) rfl m1).mono ?_); rintro e w1 ⟨⟨v, rfl, hv⟩, hb1⟩; exact ⟨_, rfl, hK _ _ ⟨hv.mono (Nat.le_trans hw1 (bdrewn hw'.out).size), hb1⟩⟩
    refine ⟨opOK_rx [(1, none)] (by kernel_rfl) rfl ?_, ?_⟩
    · intro act w' hw' h1
      have hk : ∀ v, act.eval (.const v) = v := fun _ => rfl
      have hf : ∀ f, act.eval (.func f) = .func (.func f) #[] #[] := fun _ => rfl
      generalize act.eval = ρ at *
      replace h1 : ρ (.tmp 1) = .pointer (some ⟨w.heap.size, 0, none⟩) := h1
      refine gx_gen (fun K hK => ?_)
      obtain ⟨hc, hf'⟩ := bcell (bdrewn hw'.out)
      go_simp
      exact hK _ _ ⟨rfl, Gr.refl _⟩
    refine ⟨opOK_rx [(6, some 3)] (by kernel_rfl) rfl ?_, ?_⟩
    · intro act w' hw' h1
      have hk : ∀ v, act.eval (.const v) = v := fun _ => rfl
      have hf : ∀ f, act.eval (.func f) = .func (.func f) #[] #[] := fun _ => rfl
      generalize act.eval = ρ at *
      replace h1 : ρ (.tmp 6) = .pointer (some ⟨w.heap.size, 6, none⟩) := h1
      refine gx_gen (fun K hK => ?_)
      obtain ⟨hc, hf'⟩ := bcell (bdrewn hw'.out)
      go_simp
      exact hK _ _ ⟨rfl, Gr.refl _⟩
    refine ⟨opOK_rx [(7, some 4)] (by kernel_rfl) rfl ?_, ?_⟩
    · intro act w' hw' h1
      have hk : ∀ v, act.eval (.const v) = v := fun _ => rfl
      have hf : ∀ f, act.eval (.func f) = .func (.func f) #[] #[] := fun _ => rfl
      generalize act.eval = ρ at *
      replace h1 : ρ (.tmp 7) = .slice p.ra p.n.rs.length p.rc := h1
      refine gx_gen (fun K hK => ?_)
      obtain ⟨hc, hf'⟩ := bcell (bdrewn hw'.out)
      go_simp
      (refine (cloneLn_v p.ra p.rc _ p.n.rs _ (HD.out.r.keep (bdrewn hw'.out)) rfl m2).mono ?_); rintro e w1 ⟨⟨v, rfl, hv⟩, hb1⟩; exact ⟨_, rfl, hK _ _ ⟨hv.mono (Nat.le_trans hw1 (bdrewn hw'.out).size), hb1⟩⟩
    refine ⟨opOK_rx [(1, none)] (by kernel_rfl) rfl ?_, ?_⟩
    · intro act w' hw' h1
      have hk : ∀ v, act.eval (.const v) = v := fun _ => rfl
      have hf : ∀ f, act.eval (.func f) = .func (.func f) #[] #[] := fun _ => rfl
      generalize act.eval = ρ at *
      replace h1 : ρ (.tmp 1) = .pointer (some ⟨w.heap.size, 0, none⟩) := h1
      refine gx_gen (fun K hK => ?_)
      obtain ⟨hc, hf'⟩ := bcell (bdrewn hw'.out)
      go_simp
      exact hK _ _ ⟨rfl, Gr.refl _⟩
    exact trivial
  case hfin =>
    intro w1 hg1
    intro v3 t3
    replace t3 : v3 = .pointer (some ⟨w.heap.size, 5, none⟩) := t3
    subst t3
    intro v4 t4
    replace t4 : v4 = .slice p.ca p.n.cs.length p.cc := t4
    subst t4
    intro v5 t5
    replace t5 : (fun v z => LnR (w.heap.size + 2) z v p.n.cs) v5 w1 := t5
    intro v6 t6
    replace t6 : v6 = .pointer (some ⟨w.heap.size, 6, none⟩) := t6
    subst t6
    intro v7 t7
    replace t7 : v7 = .slice p.ra p.n.rs.length p.rc := t7
    subst t7
    intro v8 t8
    replace t8 : (fun v z => LnR (w.heap.size + 2) z v p.n.rs) v8 w1 := t8
    intro v9 t9
    replace t9 : v9 = .pointer (some ⟨w.heap.size, 5, none⟩) := t9
    subst t9
    have hb1 := bdrewn hg1.out
    clear hg1
    simp only [finP, List.take_succ_cons, List.take_zero, Act.put, List.setIfInBounds_toArray, List.set_cons_succ, List.set_cons_zero]
    obtain ⟨a, ac, rfl, la, lac⟩ := t5
    obtain ⟨b, bc, rfl, lb, lbc⟩ := t8
    replace HN := Lib.hid ((hb1.block _ lx).trans HN.out)
    replace HZ := Lib.hid ((hb1.block _ (ltS HZ.out)).trans HZ.out)
    replace HB := Lib.hid (bkeep2 HB.out hb1)
    have LA := Lib.hid la
    have LB := Lib.hid lb
    have f5 := frozenS HN.out 5
    have f6 := frozenS HN.out 6
    obtain ⟨y5, z5⟩ := thereS HN.out (i := 5) (by show 5 < 34; omega)
    obtain ⟨y6, z6⟩ := thereS HN.out (i := 6) (by show 6 < 34; omega)
    clear x5 x6 la lb hb1
    refine wpAny_one (i := 7) (by kernel_rfl) rfl rfl ?_
    go_simp
    refine wpAny_one (i := 8) (by kernel_rfl) rfl rfl ?_
    go_simp
    refine wpAny_one (i := 9) (by kernel_rfl) rfl rfl ?_
    go_simp
    refine wpAny_end (by kernel_rfl) ?_
    simp only [Exit.then]
    go_step
    refine wp_genGG (fun W => W.heap[w.heap.size]? = some (.cells (valsNr (reN p a ac b bc)).toArray 39 (0, 0)) ∧ (∃ z : Array Value, W.heap[w.heap.size + 1]? = some (.cells z 39 (0, 0)) ∧ z.size = 34) ∧ LnW (w.heap.size + 2) W a p.n.cs ∧ LnW (w.heap.size + 2) W b p.n.rs ∧ Below w.heap.size w W) ⟨af_full HN.out a ac b bc, ⟨z, (Below.heap_setCell _ ⟨w.heap.size, _, none⟩ _ _ (by simp)).trans ((Below.heap_setCell _ ⟨w.heap.size, _, none⟩ _ _ (by simp)).trans HZ.out), hzs⟩, ?_, ?_, (HB.out.setCell (p := ⟨w.heap.size, _, none⟩) (by simp) _).setCell (p := ⟨w.heap.size, _, none⟩) (by simp) _⟩ (fun W2 h2 => ?_)
    · exact (LA.out.set (by omega) _).set (by omega) _
    · exact (LB.out.set (by omega) _).set (by omega) _
    obtain ⟨hn, ⟨z, hz, hzs⟩, hl1, hl2, hb⟩ := h2
    have HN := Lib.hid hn
    have HZ := Lib.hid hz
    have HL1 := Lib.hid hl1
    have HL2 := Lib.hid hl2
    have HB := Lib.hid hb
    clear hn hz hl1 hl2 hb f5 f6 y5 z5 y6 z6 LA LB
    go_wp2_with (first | (refine ldN _ (reN p a ac b bc) w.heap.size 0 rfl rfl rfl (nodeAt HN.out) ?_) | (refine stN (.tmp 2) (.tmp 11) (reN p a ac b bc) (w.heap.size + 1) 0 rfl rfl rfl rfl HZ.out (by rw [hzs]; omega) ?_))
    have hbf := below_setCells (B := w.heap.size) (g := w.heap.size + 1) (by omega) (valsNr (reN p a ac b bc)) 0 _ HB.out
    have hth : W2.there (w.heap.size + 1) 0 (valsNr (reN p a ac b bc)).length := thereB HZ.out (by rw [hzs]; show 0 + 34 ≤ 34; omega)
    have hkl : ∀ {X : Option Addr} {L : List Ln}, LnW (w.heap.size + 2) W2 X L → LnW w.heap.size (W2.setCells (w.heap.size + 1) 0 (valsNr (reN p a ac b bc))) X L := fun h => (h.same (fun k hk _ => heap_setCells_ne (by omega) _ _ _) (by rw [size_setCellsT]; exact Nat.le_refl _)).mono (by omega)
    refine afRet 2 39 (w.heap.size + 1) (valsNr (reN p a ac b bc)) Try.results40 rfl (World.rangeAt_setCells_same _ _ _ _ hth) Try.underlying39 rfl (by rw [valsNr_len]; kernel_rfl) rfl ⟨⟨_, rfl, rfl, ⟨hkl HL1.out, lac, hkl HL2.out, lbc⟩⟩, hbf⟩
end Go.Proofs.Ytgdkionmeacalab
end
section
namespace Go.Proofs.Ytgdkionmeacalab
open Go Go.RowKit
set_option linter.unusedVariables false
set_option linter.unusedSimpArgs false
set_option maxHeartbeats 4000000
/-- the nodes made so far -/
def PtN (w : World) (g n : Nat) (S : List Nr) : Prop := ∃ cs : Array Value, w.heap[g]? = some (.cells cs 39 (0, 0)) ∧ cs.size = n * 34 ∧ ∀ i q, S[i]? = some q → InS cs (i * 34) (valsNr q)
theorem stCells {w : World} {b o : Nat} {q : Nr} {cs : Array Value} {T : TypeId} (h : w.heap[b]? = some (.cells cs T (0, 0))) (hn : o + 34 ≤ cs.size) : (storeCells ⟨b, o, none⟩ (valsNr q)).run Try.prog w = .ok () (w.setCells b o (valsNr q)) := by
  have ht : w.there b o 34 := thereB h hn
  have := run_storeCells_cells (P := Try.prog) b o (valsNr q) 0 w (fun j hj => by rw [valsNr_len] at hj; simpa using (ht j hj).1) (fun j hj => by rw [valsNr_len] at hj; simpa using (ht j hj).2) (valsNr_one q)
  simpa using this
theorem PtN.lt {w : World} {g n : Nat} {S : List Nr} (h : PtN w g n S) : g < w.heap.size := by obtain ⟨cs, hh, _⟩ := h; exact ltS hh
theorem PtN.keep {w w' : World} {g n : Nat} {S : List Nr} (h : PtN w g n S) (hb : Below w.heap.size w w') : PtN w' g n S := by
  obtain ⟨cs, hh, r⟩ := h
  exact ⟨cs, (hb.block g (ltS hh)).trans hh, r⟩
theorem PtN.snoc {w : World} {g n k : Nat} {S : List Nr} (h : PtN w g n S) (hk : S.length = k) (hn : k < n) (q : Nr) : PtN (w.setCells g (k * 34) (valsNr q)) g n (S ++ [q]) := by
  obtain ⟨cs, hh, hs, hc⟩ := h
  have e : (k + 1) * 34 ≤ n * 34 := Nat.mul_le_mul_right 34 hn
  refine ⟨_, heap_setCells _ (k * 34) _ _ hh, by rw [wrAt_size, hs], fun i u hu => ?_⟩
  by_cases hi : i < S.length
  · rw [List.getElem?_append_left hi] at hu
    exact (hc i u hu).keepS (.inl (by rw [valsNr_len]; omega))
  · rw [List.getElem?_append_right (by omega)] at hu
    have h0 := (List.getElem?_eq_some_iff.1 hu).1
    simp at h0
    have hik : i = k := by omega
    subst hik
    have : i - S.length = 0 := by omega
    rw [this] at hu
    obtain rfl := Option.some.inj hu
    exact InS.write (by rw [valsNr_len, hs]; omega)
theorem map_snocN {R S : List Nr} {k : Nat} {p q : Nr} (h : S.map Nr.n = (R.take k).map Nr.n) (hp : R[k]? = some p) (hq : q.n = p.n) : (S ++ [q]).map Nr.n = (R.take (k + 1)).map Nr.n := by
  have hk := (List.getElem?_eq_some_iff.1 hp).1
  rw [List.map_append, h, List.take_add_one, hp, List.map_append]
  simp [hq]
set_option maxRecDepth 100000 in
theorem each_copied (A : Option Addr) (c n : Nat) (R : List Nr) (w : World) (h : NrV w A R) (hr : RdR w R) (hn : n = R.length) (hL : n ≤ 1048576) (hm : ∀ p ∈ R, p.n.cs.length ≤ 1048576 ∧ p.n.rs.length ≤ 1048576) :
    Calls Try.prog 39 #[.slice A n c, .func (.func 40) #[] #[]] w fun e w' => (∃ g S, e = .returned (.slice (some ⟨g, 0, none⟩) n n) ∧ w.heap.size ≤ g ∧ PtN w' g n S ∧ S.map Nr.n = R.map Nr.n ∧ ∀ q ∈ S, RdW (g + 1) w' q) ∧ Below w.heap.size w w' := by
  obtain ⟨fm, hfm, hmk0⟩ := madeK 23 39 34 (by omega) Try.underlying23 (by kernel_rfl)
  have hmk := fun w => hmk0 n w hL
  have HFM := Lib.hid hfm
  have HV := Lib.hid h
  have HR := Lib.hid hr
  have HN := Lib.hid hn
  have HM := Lib.hid hm
  clear hmk0 hfm h hr hm hn
  go_enter Try.func39, Try.ntmps39
  go_wp2_with fail
  clear hmk
  go_loopw [13] (fun i wr => ∃ (k : Nat) (S : List Nr), k ≤ n ∧ i = .int .i64 (k : Int) ∧ S.map Nr.n = (R.take k).map Nr.n ∧ S.length = k ∧ PtN wr w.heap.size n S ∧ (∀ q ∈ S, RdW (w.heap.size + 1) wr q) ∧ Below w.heap.size w wr) (fun i _ => n - (intOf i).toNat)
  case atStart => exact ⟨0, [], by omega, rfl, rfl, rfl, ⟨_, newS _ _, HFM.out n, fun i q hq => by simp at hq⟩, fun q hq => by simp at hq, balloc (Below.refl _ _)⟩
  case round =>
    obtain ⟨k, S, hk, rfl, hS, hl, hP, hW, hB⟩ := hrel
    have HS := Lib.hid hS
    have HP := Lib.hid hP
    have HW := Lib.hid hW
    have HB := Lib.hid hB
    have HSL := Lib.hid hl
    clear hS hP hW hB hl
    by_cases hlt : k < n
    · have hd : decide ((k : Int) < (n : Int)) = true := by simpa using hlt
      have hkn : (k : Int) < (n : Int) := by omega
      have hkr : k < R.length := by have := HN.out; omega
      have hget : R[k]? = some R[k] := List.getElem?_eq_getElem hkr
      obtain ⟨b, off, rfl, hb, hp⟩ := HV.out.cells (by have := HN.out; omega)
      have hLR := rangeB (hp k _ hget) (HB.out.block b hb)
      have hrd := (HR.out _ (List.mem_of_getElem? hget)).keep HB.out
      have hmm := HM.out _ (List.mem_of_getElem? hget)
      generalize R[k] = p at *
      obtain ⟨m1, m2⟩ := hmm
      have HLR := Lib.hid hLR
      have HD := Lib.hid hrd
      have HG := Lib.hid hget
      have lw := HP.out.lt
      clear hLR hrd hget hp
      go_upto_region 5 with (first | (refine ldN _ p b (off + k * 34) rfl rfl rfl HLR.out ?_) | (refine stN (.tmp 7) (.tmp 17) p wr.heap.size 0 rfl rfl rfl rfl (newS _ _) (by show (0 + 34 : Nat) ≤ 34; omega) ?_))
      refine wp_genGG (fun W => W.heap[wr.heap.size]? = some (.cells (valsNr p).toArray 39 (0, 0)) ∧ Below wr.heap.size wr W) ⟨new_full p rfl rfl, below_setCells (Nat.le_refl _) _ _ _ (balloc (Below.refl _ _))⟩ (fun W h0 => ?_)
      obtain ⟨hnn, hbb⟩ := h0
      have HNN := Lib.hid hnn
      have lw1 : w.heap.size < W.heap.size := Nat.lt_of_lt_of_le lw hbb.size
      replace HP := Lib.hid (HP.out.keep hbb)
      replace HW := Lib.hid (show ∀ q ∈ S, RdW (w.heap.size + 1) W q from fun q hq => (HW.out q hq).keep hbb)
      replace HD := Lib.hid (HD.out.keep hbb)
      replace HB := Lib.hid (bkeep2 HB.out hbb)
      clear hnn hbb HLR hd
      go_wp2_with (refine ldN _ p wr.heap.size 0 rfl rfl rfl (nodeAt HNN.out) ?_)
      with_reducible refine (copied_v p _ HD.out m1 m2).mono ?_
      rintro e W2 ⟨⟨q, rfl, hqn, hqd⟩, hb2⟩
      replace HP := Lib.hid (HP.out.keep hb2)
      replace HW := Lib.hid (show ∀ q ∈ S, RdW (w.heap.size + 1) W2 q from fun q hq => (HW.out q hq).keep hb2)
      replace HB := Lib.hid (bkeep2 HB.out hb2)
      have HQ := Lib.hid (hqd.mono (lo' := w.heap.size + 1) lw1)
      have HQN := Lib.hid hqn
      clear hb2 hqd hqn HNN
      obtain ⟨cs, hcs, hss⟩ : ∃ cs : Array Value, W2.heap[w.heap.size]? = some (.cells cs 39 (0, 0)) ∧ cs.size = n * 34 := let ⟨cs, a, b, _⟩ := HP.out; ⟨cs, a, b⟩
      have HCS := Lib.hid hcs
      have hle : k * 34 + 34 ≤ cs.size := by rw [hss]; omega
      have HLE := Lib.hid hle
      clear hcs hss hle
      have hst := stCells (q := q) HCS.out HLE.out
      go_wp2_with fail
      clear hst
      have hP2 := HP.out.snoc HSL.out hlt q
      have hW2 : ∀ u ∈ S ++ [q], RdW (w.heap.size + 1) (W2.setCells w.heap.size (k * 34) (valsNr q)) u := fun u hu => by
        rcases List.mem_append.1 hu with hu | hu
        · exact (HW.out u hu).sets (by omega) _ _
        · obtain rfl := List.mem_singleton.1 hu
          exact HQ.out.sets (by omega) _ _
      have hB2 : Below w.heap.size w (W2.setCells w.heap.size (k * 34) (valsNr q)) := below_setCells (Nat.le_refl _) _ _ _ HB.out
      have hl2 : (S ++ [q]).length = k + 1 := by rw [List.length_append, HSL.out]; rfl
      have hm2 := map_snocN HS.out HG.out HQN.out
      have HP2 := Lib.hid hP2
      have HW2 := Lib.hid hW2
      have HB2 := Lib.hid hB2
      have HL2 := Lib.hid hl2
      have HM2 := Lib.hid hm2
      clear hP2 hW2 hB2 hl2 hm2 HP HW HB HCS
      go_wp2
      go_roundw
      case rel => exact ⟨k + 1, S ++ [q], by omega, by go_num, HM2.out, HL2.out, HP2.out, HW2.out, HB2.out⟩
      case measure => simp [intOf]; omega
    · have hd : decide ((k : Int) < (n : Int)) = false := decide_eq_false (by omega)
      obtain rfl : k = n := by omega
      go_wp2
      go_ret
      exact ⟨⟨_, S, rfl, Nat.le_refl _, HP.out, by rw [HS.out, HN.out, List.take_length], HW.out⟩, HB.out⟩
end Go.Proofs.Ytgdkionmeacalab
end
section
namespace Go.Proofs.Ytgdkionmeacalab
open Go.RowKit
set_option linter.unusedVariables false
set_option maxHeartbeats 4000000
attribute [local go_sem] Oper.semAt_some
/-! The way up. -/
def IsUp (L : List Nd) : Int → List Int → Prop
  | p, [] => p = -1
  | p, x :: xs => x = p ∧ 0 ≤ p ∧ ∃ n : Nd, L[p.toNat]? = some n ∧ n.pa < p ∧ -1 ≤ n.pa ∧ IsUp L n.pa xs
theorem IsUp.cons {L : List Nd} {p : Int} {xs : List Int} {n : Nd} (h0 : 0 ≤ p) (hn : L[p.toNat]? = some n) (h1 : n.pa < p) (h2 : -1 ≤ n.pa) (h : IsUp L n.pa xs) : IsUp L p (p :: xs) := by
  unfold IsUp; exact ⟨rfl, h0, n, hn, h1, h2, h⟩
theorem IsUp.nil {L : List Nd} : IsUp L (-1) [] := by unfold IsUp; rfl
theorem tree_nok {L : List Nd} (h : treeB L = true) {k : Nat} {n : Nd} (hn : L[k]? = some n) : ndB n = true ∧ upB k n = true ∧ clB L k n = true := by
  unfold treeB at h
  rw [Bool.and_eq_true] at h
  have hk : k < L.length := (List.getElem?_eq_some_iff.1 hn).1
  have := List.all_eq_true.1 h.2 k (List.mem_range.2 hk)
  rw [nokB_at hn, Bool.and_eq_true, Bool.and_eq_true] at this
  exact this
theorem tree_len {L : List Nd} (h : treeB L = true) : 1 ≤ L.length ∧ L.length ≤ 10 := by
  unfold treeB at h
  rw [Bool.and_eq_true, rng_iff] at h
  omega
/-- what a round must keep: the two variables of the iterator, and the nodes -/
def KU (Bi Bt b : Nat) (X Y : World) : Prop := Y.heap[Bi]? = X.heap[Bi]? ∧ Y.heap[Bt]? = X.heap[Bt]? ∧ Y.heap[b]? = X.heap[b]?
theorem KU.trans {Bi Bt b : Nat} {A B C : World} (h : KU Bi Bt b A B) (k : KU Bi Bt b B C) : KU Bi Bt b A C := ⟨k.1.trans h.1, k.2.1.trans h.2.1, k.2.2.trans h.2.2⟩
theorem KU.of {Bi Bt b n0 : Nat} {A B : World} (h : Below n0 A B) (h1 : Bi < n0) (h2 : Bt < n0) (h3 : b < n0) : KU Bi Bt b A B := ⟨h.block _ h1, h.block _ h2, h.block _ h3⟩
/-- the iterator's variables and the nodes -/
structure UpAt (W : World) (Bi Bt b off len c : Nat) (i : Int) (R : List Nr) : Prop where
  hi : W.cell? ⟨Bi, 0, none⟩ = some (.int .i64 i)
  ht : W.cell? ⟨Bt, 0, none⟩ = some (.slice (some ⟨b, off, none⟩) len c)
  hn : ∀ (k : Nat) (p : Nr), R[k]? = some p → W.rangeAt b (off + k * 34) (valsNr p)
theorem UpAt.keep {W W' : World} {Bi Bt b off len c : Nat} {i : Int} {R : List Nr} (h : UpAt W Bi Bt b off len c i R) (hk : KU Bi Bt b W W') : UpAt W' Bi Bt b off len c i R :=
  ⟨(World.cell?_of_block (a := ⟨Bi, 0, none⟩) hk.1).trans h.hi, (World.cell?_of_block (a := ⟨Bt, 0, none⟩) hk.2.1).trans h.ht, fun k p hp => rangeB (h.hn k p hp) hk.2.2⟩
end Go.Proofs.Ytgdkionmeacalab
end
section
namespace Go.Proofs.Ytgdkionmeacalab
open Go.RowKit
set_option linter.unusedVariables false
set_option maxHeartbeats 16000000
/-- a block of widgets whose slices stand -/
def NodS (w : World) (g : Nat) (S : List Nr) : Prop := ∃ cs : Array Value, w.heap[g]? = some (.cells cs 39 (0, 0)) ∧ cs.size = S.length * 34 ∧ ∀ i q, S[i]? = some q → cs[i * 34 + 5]? = some (.slice q.ca q.n.cs.length q.cc) ∧ cs[i * 34 + 6]? = some (.slice q.ra q.n.rs.length q.rc)
theorem NodS.of {w : World} {g : Nat} {S : List Nr} (h : NrB w g S) : NodS w g S := by
  obtain ⟨cs, hh, hs, hc⟩ := h
  exact ⟨cs, hh, hs, fun i q hq => ⟨hc i q hq 5 _ rfl, hc i q hq 6 _ rfl⟩⟩
theorem NodS.lt {w : World} {g : Nat} {S : List Nr} (h : NodS w g S) : g < w.heap.size := by obtain ⟨cs, hh, _⟩ := h; exact ltS hh
theorem NodS.keep {w w' : World} {g : Nat} {S : List Nr} (h : NodS w g S) (hb : w'.heap[g]? = w.heap[g]?) : NodS w' g S := by
  obtain ⟨cs, hh, r⟩ := h
  exact ⟨cs, hb.trans hh, r⟩
theorem NodS.put {w : World} {g : Nat} {S : List Nr} (h : NodS w g S) (k j : Nat) (hj : j < 34) (h5 : j ≠ 5) (h6 : j ≠ 6) (v : Value) : NodS (w.setCell ⟨g, k * 34 + j, none⟩ v) g S := by
  obtain ⟨cs, hh, hs, hc⟩ := h
  refine ⟨_, putS hh v, by simpa using hs, fun i q hq => ?_⟩
  obtain ⟨e5, e6⟩ := hc i q hq
  rw [Array.getElem?_setIfInBounds_ne (by omega), Array.getElem?_setIfInBounds_ne (by omega)]
  exact ⟨e5, e6⟩
theorem NodS.cell {w : World} {g : Nat} {S : List Nr} (h : NodS w g S) {k j : Nat} (hk : k < S.length) (hj : j < 34) : ∃ v, w.cell? ⟨g, k * 34 + j, none⟩ = some v := by
  obtain ⟨cs, hh, hs, _⟩ := h
  exact thereS hh (by omega)
theorem NodS.frz {w : World} {g : Nat} {S : List Nr} (h : NodS w g S) (i : Nat) : w.frozen? ⟨g, i, none⟩ = false := by
  obtain ⟨cs, hh, _⟩ := h
  exact frozenS hh i
theorem NodS.sl {w : World} {g : Nat} {S : List Nr} (h : NodS w g S) {k : Nat} {q : Nr} (hq : S[k]? = some q) : w.cell? ⟨g, k * 34 + 5, none⟩ = some (.slice q.ca q.n.cs.length q.cc) ∧ w.cell? ⟨g, k * 34 + 6, none⟩ = some (.slice q.ra q.n.rs.length q.rc) := by
  obtain ⟨cs, hh, _, hc⟩ := h
  exact ⟨(cellS hh _).trans (hc k q hq).1, (cellS hh _).trans (hc k q hq).2⟩
/-- the lines of the widgets from k on stand in blocks of their own -/
def LnsS (w : World) (g hi k : Nat) (S : List Nr) : Prop := ∀ i q, k ≤ i → S[i]? = some q → ∃ g1 g2, q.ca = some ⟨g1, 0, none⟩ ∧ q.cc = q.n.cs.length ∧ q.ra = some ⟨g2, 0, none⟩ ∧ q.rc = q.n.rs.length ∧ g < g1 ∧ g1 < g2 ∧ g2 < hi ∧ LnB w g1 q.n.cs ∧ LnB w g2 q.n.rs
def ApS (S : List Nr) : Prop := ∀ (i j : Nat) (q r : Nr), i < j → S[i]? = some q → S[j]? = some r → ∀ a b : Addr, (q.ca = some a ∨ q.ra = some a) → (r.ca = some b ∨ r.ra = some b) → a.block < b.block
theorem LnsS.of {g hi : Nat} {w : World} {R S : List Nr} (h : CpR (g + 1) w R S) (hs : w.heap.size ≤ hi) : LnsS w g hi 0 S := fun i q _ hq => by
  have hi' := (List.getElem?_eq_some_iff.1 hq).1
  rw [h.len] at hi'
  obtain ⟨g1, g2, rfl, h1, h2, h3, h4⟩ := h.each i _ q (List.getElem?_eq_getElem hi') hq
  have l4 := h4.lt
  exact ⟨g1, g2, rfl, rfl, rfl, rfl, by omega, h2, by omega, h3, h4⟩
theorem LnsS.put {w : World} {g hi k : Nat} {S : List Nr} (h : LnsS w g hi k S) (o : Nat) (v : Value) : LnsS (w.setCell ⟨g, o, none⟩ v) g hi k S := fun i q hk hq => by
  obtain ⟨g1, g2, e1, e2, e3, e4, h1, h2, h3, h4, h5⟩ := h i q hk hq
  exact ⟨g1, g2, e1, e2, e3, e4, h1, h2, h3, h4.but (gsetS (greflS w g) o v) (by omega), h5.but (gsetS (greflS w g) o v) (by omega)⟩
/-- the frame: the slots that are read again -/
structure FmN (t : Array Value) (g n c k : Nat) (z : Int) : Prop where
  size : t.size = 286
  t0 : t[0]? = some (.slice (some ⟨g, 0, none⟩) n c)
  t1 : t[1]? = some (.int .i64 z)
  t5 : t[5]? = some (.int .i64 k)
/-- the state within a round -/
structure StN (w W : World) (g hi k j : Nat) (S : List Nr) (q : Nr) (g1 g2 : Nat) (b1 b2 : Bool) : Prop where
  s : NodS W g S
  l : LnsS W g hi j S
  i : Wi g hi w W
  c : b1 = true → LnB W g1 q.n.cs
  r : b2 = true → LnB W g2 q.n.rs
theorem StN.put {w W : World} {g hi k j' : Nat} {S : List Nr} {q : Nr} {g1 g2 : Nat} {b1 b2 : Bool} (h : StN w W g hi k j' S q g1 g2 b1 b2) (hg : g < g1 ∧ g1 < g2 ∧ g2 < hi) (j : Nat) (hj : j < 34) (h5 : j ≠ 5) (h6 : j ≠ 6) (v : Value) : StN w (W.setCell ⟨g, k * 34 + j, none⟩ v) g hi k j' S q g1 g2 b1 b2 :=
  ⟨h.s.put k j hj h5 h6 v, h.l.put _ _, h.i.set ⟨Nat.le_refl _, by omega⟩ _, fun e => (h.c e).but (gsetS (greflS _ g) _ _) (by omega), fun e => (h.r e).but (gsetS (greflS _ g) _ _) (by omega)⟩
end Go.Proofs.Ytgdkionmeacalab
end
