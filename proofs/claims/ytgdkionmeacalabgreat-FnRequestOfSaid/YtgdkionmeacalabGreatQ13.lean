import Derived.Test.YtgdkionmeacalabGreatQ12
section
namespace Go.Proofs.YtgdkionmeacalabGreat
open Go.RowKit
set_option linter.unusedVariables false
set_option linter.unusedSimpArgs false
set_option maxHeartbeats 4000000

theorem own_bw {w w' : World} {base : Nat} {e : TypeId} {size : Nat} {v : Value} {n : Nat} {xs : List Value} (h : w.ownsRow base e size v n xs) (hb : Below w.heap.size w w') : w'.ownsRow base e size v n xs :=
  h.kept (row := none) ⟨hb.os, hb.tape, hb.output, hb.size, fun k hk _ => hb.block k hk⟩ (by cases v.ownBlock <;> simp)
/-- the indices below a number for which something holds -/
def idsN (f : Nat → Bool) (n : Nat) : List Nat := (List.range n).filter f
def idsM (f : Nat → Bool) (n : Nat) : List Int := (idsN f n).map (fun (k : Nat) => (k : Int))
theorem idsM_yes {f : Nat → Bool} {k : Nat} (h : f k = true) : idsM f (k + 1) = idsM f k ++ [(k : Int)] := by simp [idsM, idsN, List.range_succ, List.filter_append, h]
theorem idsM_no {f : Nat → Bool} {k : Nat} (h : f k = false) : idsM f (k + 1) = idsM f k := by simp [idsM, idsN, List.range_succ, List.filter_append, h]
theorem idsM_len (f : Nat → Bool) (k : Nat) : (idsM f k).length ≤ k := by
  unfold idsM idsN
  rw [List.length_map]
  exact Nat.le_trans (List.length_filter_le _ _) (by simp)
/-- a value that is a slice that reads as this list -/
def KdV (w : World) (v : Value) (L : List Int) : Prop := ∃ A c, v = .slice A L.length c ∧ NV w A L ∧ L.length ≤ c
theorem KdV.keep {w w' : World} {v : Value} {L : List Int} (h : KdV w v L) (hb : Below w.heap.size w w') : KdV w' v L := let ⟨A, c, e, q, hc⟩ := h; ⟨A, c, e, q.keep hb, hc⟩
theorem KdV.of {w : World} {base : Nat} {v : Value} {L : List Int} (h : w.ownsRow base 3 1 v L.length (nvalsW L)) : KdV w v L := by
  rcases own_inW h rfl with ⟨rfl, hM⟩ | ⟨g, cap, rfl, hbg, hO⟩
  · exact ⟨none, 0, by rw [hM]; rfl, ⟨fun h0 => absurd h0 (by rw [hM]; simp)⟩, by rw [hM]; simp⟩
  · exact ⟨_, cap, rfl, hO.nv, hO.1⟩
set_option maxRecDepth 100000 in
theorem indicesK_v (n : Nat) (f : Nat → Bool) (caps : Array Value) (w : World) (hn : n ≤ 1048576)
    (hf : ∀ k, k < n → ∀ W, Below w.heap.size w W → Calls Tryz.prog 110 (#[.int .i64 (k : Int)] ++ caps) W fun e W' => e = .returned (.bool (f k)) ∧ Below W.heap.size W W') :
    Calls Tryz.prog 60 #[.int .i64 (n : Int), .func (.func 110) #[] caps] w fun e w' => (∃ v, e = .returned v ∧ KdV w' v (idsM f n)) ∧ Below w.heap.size w w' := by
  obtain ⟨ti, tz, ti1, ti2, ti3, ti4, ti5⟩ := int_infoW
  have HF := Lib.hid hf
  clear hf
  refine calls_abs Tryz.func60 rfl 20 (by simp only [Tryz.ntmps60]) (by simp) (fun t hsz hargs => ?_)
  have q0 : t[0]? = some (.int .i64 (n : Int)) := get_of (by omega) (hargs 0 _ rfl)
  have q1 : t[1]? = some (.func (.func 110) #[] caps) := get_of (by omega) (hargs 1 _ rfl)
  clear hargs
  obtain ⟨l0, e0⟩ := Array.getElem?_eq_some_iff.1 q0
  obtain ⟨l1, e1⟩ := Array.getElem?_eq_some_iff.1 q1
  refine wp_seq_h fun K hK => ?_
  apply wp_region_lit
  repeat (first | go_step)
  refine hK.out _ _ ?_
  clear hK K
  refine wp_abw (fun t' W' => t'.size = 20 ∧ t'[0]? = some (.int .i64 (n : Int)) ∧ t'[1]? = some (.func (.func 110) #[] caps) ∧ w = W') ⟨by simp [hsz], by simp [q0], by simp [q1], rfl⟩ ?_
  clear hsz q0 l0 e0 q1 l1 e1 t 
  rintro t _ ⟨hsz, q0, q1, rfl⟩
  obtain ⟨l0, e0⟩ := Array.getElem?_eq_some_iff.1 q0
  obtain ⟨l1, e1⟩ := Array.getElem?_eq_some_iff.1 q1
  refine wp_seq_h fun K hK => ?_
  apply wp_region_lit
  repeat (first | go_step)
  refine hK.out _ _ ?_
  clear hK K
  refine wp_abw (fun t' W' => t'.size = 20 ∧ t'[0]? = some (.int .i64 (n : Int)) ∧ t'[1]? = some (.func (.func 110) #[] caps) ∧ t'[5]? = some (.slice none 0 0) ∧ w = W') ⟨by simp [hsz], by simp [q0], by simp [q1], by simp [hsz], rfl⟩ ?_
  clear hsz q0 l0 e0 q1 l1 e1 t 
  rintro t _ ⟨hsz, q0, q1, q5, rfl⟩
  refine wp_seq_h fun KE hKE => ?_
  obtain ⟨l0, e0⟩ := Array.getElem?_eq_some_iff.1 q0
  obtain ⟨l1, e1⟩ := Array.getElem?_eq_some_iff.1 q1
  obtain ⟨l5, e5⟩ := Array.getElem?_eq_some_iff.1 q5
  refine wp_seq_h fun K hK => ?_
  apply wp_region_lit
  repeat (first | go_step)
  refine hK.out _ _ ?_
  clear hK K
  refine wp_abw (fun t' W' => t'.size = 20 ∧ t'[1]? = some (.func (.func 110) #[] caps) ∧ t'[5]? = some (.slice none 0 0) ∧ t'[7]? = some (.int .i64 (n : Int)) ∧ t'[8]? = some (.int .i64 ((0 : Nat) : Int)) ∧ w = W') ⟨by simp [hsz], by simp [q1], by simp [q5], by simp [hsz], by simp [hsz], rfl⟩ ?_
  clear hsz q0 l0 e0 q1 l1 e1 q5 l5 e5 t 
  rintro t _ ⟨hsz, q1, q5, q7, q8, rfl⟩
  apply wp_block
  refine wp_loop (fun a W => ∃ (t : Array Value) (k : Nat) (v : Value), a = ⟨t, []⟩ ∧ k ≤ n ∧ t.size = 20 ∧ t[1]? = some (.func (.func 110) #[] caps) ∧ t[5]? = some (v) ∧ t[7]? = some (.int .i64 (n : Int)) ∧ t[8]? = some (.int .i64 (k : Int)) ∧ W.ownsRow w.heap.size 3 1 v (idsM f k).length (nvalsW (idsM f k)) ∧ Below w.heap.size w W) (fun a _ => n - (intOf (a.tmps.getD 8 undef)).toNat) ⟨t, 0, .slice none 0 0, rfl, by omega, hsz, q1, q5, q7, q8, ⟨rfl, .inl ⟨rfl, rfl⟩⟩, Below.refl _ _⟩ ?_
  clear t hsz q1 q5 q7 q8
  rintro a W ⟨t, k, v, rfl, hk, hsz, q1, q5, q7, q8, hO, hB⟩
  have hmu : intOf (t.getD 8 undef) = (k : Int) := by rw [Array.getD_eq_getD_getElem?, q8]; rfl
  dsimp only
  rw [hmu]
  clear hmu
  have HO := Lib.hid hO
  have HB := Lib.hid hB
  clear hO hB
  by_cases hlt : k < n
  · have hd : decide ((k : Int) < (n : Int)) = true := by simpa using hlt
    obtain ⟨l1, e1⟩ := Array.getElem?_eq_some_iff.1 q1
    obtain ⟨l5, e5⟩ := Array.getElem?_eq_some_iff.1 q5
    obtain ⟨l7, e7⟩ := Array.getElem?_eq_some_iff.1 q7
    obtain ⟨l8, e8⟩ := Array.getElem?_eq_some_iff.1 q8
    refine wp_seq_h fun K hK => ?_
    apply wp_region_lit
    repeat (first | go_step)
    refine hK.out _ _ ?_
    clear hK K
    refine wp_abw (fun t' W' => t'.size = 20 ∧ t'[1]? = some (.func (.func 110) #[] caps) ∧ t'[5]? = some (v) ∧ t'[7]? = some (.int .i64 (n : Int)) ∧ t'[8]? = some (.int .i64 (k : Int)) ∧ t'[9]? = some (.bool true) ∧ W = W') ⟨by simp [hsz], by simp [q1], by simp [q5], by simp [q7], by simp [q8], by simp [hsz, hd], rfl⟩ ?_
    clear hsz q1 l1 e1 q5 l5 e5 q7 l7 e7 q8 l8 e8 t 
    rintro t _ ⟨hsz, q1, q5, q7, q8, q9, rfl⟩
    clear hd
    refine wp_seq_h fun K1 hK1 => ?_
    refine wp_cond_true (by simp [Act.eval, q9]) ?_
    apply wp_skip
    simp only [Exit.then]
    refine hK1.out _ _ ?_
    clear hK1 K1 q9
    refine wp_seq_h fun KB hKB => ?_
    apply wp_block
    obtain ⟨l1, e1⟩ := Array.getElem?_eq_some_iff.1 q1
    obtain ⟨l5, e5⟩ := Array.getElem?_eq_some_iff.1 q5
    obtain ⟨l7, e7⟩ := Array.getElem?_eq_some_iff.1 q7
    obtain ⟨l8, e8⟩ := Array.getElem?_eq_some_iff.1 q8
    refine wp_seq_h fun K hK => ?_
    apply wp_region_lit
    repeat (first | go_step)
    refine hK.out _ _ ?_
    clear hK K
    refine wp_abw (fun t' W' => t'.size = 20 ∧ t'[1]? = some (.func (.func 110) #[] caps) ∧ t'[5]? = some (v) ∧ t'[6]? = some (.int .i64 (k : Int)) ∧ t'[7]? = some (.int .i64 (n : Int)) ∧ t'[8]? = some (.int .i64 (k : Int)) ∧ W = W') ⟨by simp [hsz], by simp [q1], by simp [q5], by simp [hsz], by simp [q7], by simp [q8], rfl⟩ ?_
    clear hsz q1 l1 e1 q5 l5 e5 q7 l7 e7 q8 l8 e8 t 
    rintro t _ ⟨hsz, q1, q5, q6, q7, q8, rfl⟩
    obtain ⟨l1, e1⟩ := Array.getElem?_eq_some_iff.1 q1
    obtain ⟨l5, e5⟩ := Array.getElem?_eq_some_iff.1 q5
    obtain ⟨l6, e6⟩ := Array.getElem?_eq_some_iff.1 q6
    obtain ⟨l7, e7⟩ := Array.getElem?_eq_some_iff.1 q7
    obtain ⟨l8, e8⟩ := Array.getElem?_eq_some_iff.1 q8
    have hlen := idsM_len f k
    refine wp_seq_h fun K hK => ?_
    apply wp_region_lit
    repeat go_step
    refine (HF.out k hlt _ HB.out).mono ?_
    rintro e W1 ⟨rfl, hb1⟩
    dsimp only
    repeat go_step
    refine hK.out _ _ ?_
    clear hK K
    have hob := HO.out.lt
    replace HO := Lib.hid (own_bw HO.out hb1)
    replace HB := Lib.hid (bkeep2 HB.out hb1)
    have hs1 := hb1.size
    clear hb1
    refine wp_abw (fun t' W' => t'.size = 20 ∧ t'[1]? = some (.func (.func 110) #[] caps) ∧ t'[5]? = some (v) ∧ t'[6]? = some (.int .i64 (k : Int)) ∧ t'[7]? = some (.int .i64 (n : Int)) ∧ t'[8]? = some (.int .i64 (k : Int)) ∧ t'[13]? = some (.bool (f k)) ∧ W1 = W') ⟨by simp [hsz], by simp [q1], by simp [q5], by simp [q6], by simp [q7], by simp [q8], by simp [hsz], rfl⟩ ?_
    clear hsz q1 l1 e1 q5 l5 e5 q6 l6 e6 q7 l7 e7 q8 l8 e8 t 
    rintro t _ ⟨hsz, q1, q5, q6, q7, q8, q13, rfl⟩
    obtain ⟨l1, e1⟩ := Array.getElem?_eq_some_iff.1 q1
    by_cases hfk : f k = true
    · have hids := idsM_yes hfk
      rw [hfk] at q13
      refine wp_cond_true (by simp [Act.eval, q13]) ?_
      clear l1 e1 q13
      obtain ⟨l1, e1⟩ := Array.getElem?_eq_some_iff.1 q1
      obtain ⟨l5, e5⟩ := Array.getElem?_eq_some_iff.1 q5
      obtain ⟨l6, e6⟩ := Array.getElem?_eq_some_iff.1 q6
      obtain ⟨l7, e7⟩ := Array.getElem?_eq_some_iff.1 q7
      obtain ⟨l8, e8⟩ := Array.getElem?_eq_some_iff.1 q8
      have hob : ∀ b, v.ownBlock = some b → w.heap.size ≤ b ∧ b < W1.heap.size := HO.out.lt
      have hw1 : w.heap.size ≤ W1.heap.size := HB.out.size
      apply wp_region_lit
      repeat (first | ((with_reducible show wpList _ _ _ _ _ _); refine wpList_append_own _ rfl _ _ 42 rfl w.heap.size 3 ti tz 1 8 Tryz.underlying42 ti1 ti2 ti3 ti4 ti5 (by decide) v _ _ (by simp [Act.eval, Act.put, hsz, e5]) (HO.out.alloc _) ⟨W1.heap.size, 0, none⟩ 1 1 [.int .i64 (k : Int)] (by simp [Act.eval, Act.put, hsz]) rfl (newW _ _ _) (by simp [Value.oneCell']) (by simp only [maxLen]; omega) (by omega) (by simp; omega) ?_) | go_step)
      intro v5 w5 how5 hgr5 _
      have hb5 := below_own HB.out hgr5 hob (Nat.le_refl _) (Nat.le_refl _)
      rw [nvalsW_snoc, ← hids] at how5
      have hlen5 : (idsM f k).length + 1 = (idsM f (k + 1)).length := by rw [hids]; simp
      rw [hlen5] at how5
      clear hlen5 hids
      repeat go_step
      try simp only [Exit.inBlock]
      refine hKB.out _ _ ?_
      clear hKB KB
      refine wp_abw (fun t' W' => t'.size = 20 ∧ t'[1]? = some (.func (.func 110) #[] caps) ∧ t'[5]? = some (v5) ∧ t'[7]? = some (.int .i64 (n : Int)) ∧ t'[8]? = some (.int .i64 (k : Int)) ∧ w5 = W') ⟨by simp [hsz], by simp [q1], by simp [hsz], by simp [q7], by simp [q8], rfl⟩ ?_
      clear hsz q1 l1 e1 q5 l5 e5 q6 l6 e6 q7 l7 e7 q8 l8 e8 t hob hw1
      rintro t _ ⟨hsz, q1, q5, q7, q8, rfl⟩
      obtain ⟨l1, e1⟩ := Array.getElem?_eq_some_iff.1 q1
      obtain ⟨l5, e5⟩ := Array.getElem?_eq_some_iff.1 q5
      obtain ⟨l7, e7⟩ := Array.getElem?_eq_some_iff.1 q7
      obtain ⟨l8, e8⟩ := Array.getElem?_eq_some_iff.1 q8
      apply wp_region_lit
      repeat go_step
      try simp only [Exit.then]
      refine ⟨⟨_, k + 1, v5, rfl, by omega, by simp [hsz], by simp [q1], by simp [q5], by simp [q7], by simp [hsz], how5, hb5⟩, ?_⟩
      · simp [hsz, intOf]
        omega
    · have hfk' : f k = false := by simpa using hfk
      have hids := idsM_no hfk'
      rw [hfk'] at q13
      refine wp_cond_false (by simp [Act.eval, q13]) ?_
      clear l1 e1 q13
      apply wp_skip
      try simp only [Exit.inBlock]
      refine hKB.out _ _ ?_
      clear hKB KB
      obtain ⟨l1, e1⟩ := Array.getElem?_eq_some_iff.1 q1
      obtain ⟨l5, e5⟩ := Array.getElem?_eq_some_iff.1 q5
      obtain ⟨l6, e6⟩ := Array.getElem?_eq_some_iff.1 q6
      obtain ⟨l7, e7⟩ := Array.getElem?_eq_some_iff.1 q7
      obtain ⟨l8, e8⟩ := Array.getElem?_eq_some_iff.1 q8
      apply wp_region_lit
      repeat go_step
      try simp only [Exit.then]
      refine ⟨⟨_, k + 1, v, rfl, by omega, by simp [hsz], by simp [q1], by simp [q5], by simp [q7], by simp [hsz], by rw [hids]; exact HO.out, HB.out⟩, ?_⟩
      · simp [hsz, intOf]
        omega
  · have hd : decide ((k : Int) < (n : Int)) = false := decide_eq_false (by omega)
    obtain ⟨l1, e1⟩ := Array.getElem?_eq_some_iff.1 q1
    obtain ⟨l5, e5⟩ := Array.getElem?_eq_some_iff.1 q5
    obtain ⟨l7, e7⟩ := Array.getElem?_eq_some_iff.1 q7
    obtain ⟨l8, e8⟩ := Array.getElem?_eq_some_iff.1 q8
    refine wp_seq_h fun K hK => ?_
    apply wp_region_lit
    repeat (first | go_step)
    refine hK.out _ _ ?_
    clear hK K
    refine wp_abw (fun t' W' => t'.size = 20 ∧ t'[1]? = some (.func (.func 110) #[] caps) ∧ t'[5]? = some (v) ∧ t'[7]? = some (.int .i64 (n : Int)) ∧ t'[8]? = some (.int .i64 (k : Int)) ∧ t'[9]? = some (.bool false) ∧ W = W') ⟨by simp [hsz], by simp [q1], by simp [q5], by simp [q7], by simp [q8], by simp [hsz, hd], rfl⟩ ?_
    clear hsz q1 l1 e1 q5 l5 e5 q7 l7 e7 q8 l8 e8 t 
    rintro t _ ⟨hsz, q1, q5, q7, q8, q9, rfl⟩
    refine wp_seq_h fun K1 hK1 => ?_
    refine wp_cond_false (by simp [Act.eval, q9]) ?_
    apply wp_exit
    simp only [Exit.then, Exit.inBlock, if_true]
    refine hKE.out _ _ ?_
    clear hd
    obtain rfl : k = n := by omega
    obtain ⟨l1, e1⟩ := Array.getElem?_eq_some_iff.1 q1
    obtain ⟨l5, e5⟩ := Array.getElem?_eq_some_iff.1 q5
    obtain ⟨l7, e7⟩ := Array.getElem?_eq_some_iff.1 q7
    obtain ⟨l8, e8⟩ := Array.getElem?_eq_some_iff.1 q8
    obtain ⟨l9, e9⟩ := Array.getElem?_eq_some_iff.1 q9
    repeat go_step
    refine bodyPost_ret (results_tmp rfl _ _ _) rfl ?_
    exact ⟨⟨v, by simp [hsz], KdV.of HO.out⟩, HB.out⟩
end Go.Proofs.YtgdkionmeacalabGreat
end
section
namespace Go.Proofs.YtgdkionmeacalabGreat
open Go.RowKit
set_option linter.unusedVariables false
set_option linter.unusedSimpArgs false
set_option maxHeartbeats 4000000
attribute [local go_sem] growUpon_value growUpon_skip growUpon_enter

def isKid (R : List Nr) (i : Int) (k : Nat) : Bool := match R[k]? with
  | some p => p.n.pa == i
  | none => false
def kidsN (R : List Nr) (i : Int) : List Nat := idsN (isKid R i) R.length
def kidsM (R : List Nr) (i : Int) : List Int := idsM (isKid R i) R.length
theorem isKid_at {R : List Nr} {i : Int} {k : Nat} {p : Nr} (h : R[k]? = some p) : isKid R i k = (p.n.pa == i) := by unfold isKid; rw [h]
set_option maxRecDepth 100000 in
theorem kid1_v (A : Option Addr) (c : Nat) (R : List Nr) (i : Int) (k bt bi : Nat) (w : World) (h : NrV w A R) (hk : k < R.length) (ht : w.cell? ⟨bt, 0, none⟩ = some (.slice A R.length c)) (hi : w.cell? ⟨bi, 0, none⟩ = some (.int .i64 i)) (lt : bt < w.heap.size) (li : bi < w.heap.size) (hL : R.length ≤ 1048576) :
    Calls Tryz.prog 110 #[.int .i64 (k : Int), .pointer (some ⟨bt, 0, none⟩), .pointer (some ⟨bi, 0, none⟩)] w fun e w' => e = .returned (.bool (isKid R i k)) ∧ Below w.heap.size w w' := by
  have hget : R[k]? = some R[k] := List.getElem?_eq_getElem hk
  obtain ⟨b, off, rfl, hb, hp⟩ := h.cells (by omega)
  have x0 : w.cell? ⟨b, off + k * 34, none⟩ = some (.int .i64 R[k].n.pa) := hp k _ hget 0 _ rfl
  rw [isKid_at hget]
  generalize R[k] = p at *
  have hd1 : (k : Int) < (R.length : Int) := by omega
  clear hget hp h
  go_enter Tryz.func110, Tryz.ntmps110
  go_wp2_with fail
  refine wp_region_grow 8 1 (· < 8) (by kernel_rfl) (by kernel_rfl) rfl ?_
  iterate 8 (refine wpG_step (fun K hK => ?_); first | (refine grow_skip rfl ?_; go_simp; refine hK _ ?_; clear hK K) | (apply Exists.intro; refine ⟨.inl ⟨rfl, fun w' hw' => ?_⟩, ?_⟩; (focus ((obtain ⟨hc, hf⟩ := bcell hw'.out); (have hcS := bcellS hw'.out); go_simp <;> first | rfl)); (go_simp; refine hK _ ?_; clear hK K)))
  refine wpG_nil ?_
  refine wpK_tail (by kernel_rfl) (fun wa hga => ?_)
  have hba := bdrewn hga.out
  obtain ⟨hca, hfa⟩ := bcell hba
  refine wpAny_one (i := 8) (by kernel_rfl) rfl rfl ?_
  go_simp
  refine wpAny_end (by kernel_rfl) ?_
  refine NoPan.thn ?_
  clear hca hfa
  clear hga
  go_wp2
  go_ret
  exact ⟨rfl, hba⟩
set_option maxRecDepth 100000 in
theorem kidsOf_v (A : Option Addr) (c : Nat) (R : List Nr) (i : Int) (w : World) (h : NrV w A R) (hL : R.length ≤ 1048576) :
    Calls Tryz.prog 74 #[.agg #[.slice A R.length c], .int .i64 i] w fun e w' => (∃ v, e = .returned v ∧ KdV w' v (kidsM R i)) ∧ Below w.heap.size w w' := by
  have hB0 : Below w.heap.size w ((w.alloc (.cells #[.slice A R.length c] 25 (0, 0))).alloc (.cells #[.int .i64 i] 3 (0, 0))) := (balloc (Below.refl _ _)).trans ((balloc (Below.refl _ _)).mono (by simp))
  have H1 := Lib.hid (show ((w.alloc (.cells #[.slice A R.length c] 25 (0, 0))).alloc (.cells #[.int .i64 i] 3 (0, 0))).heap[w.heap.size]? = some (.cells #[.slice A R.length c] 25 (0, 0)) from (Below.heap_alloc _ _ _ (by simp)).trans (newS _ _))
  have H2 := Lib.hid (show ((w.alloc (.cells #[.slice A R.length c] 25 (0, 0))).alloc (.cells #[.int .i64 i] 3 (0, 0))).heap[w.heap.size + 1]? = some (.cells #[.int .i64 i] 3 (0, 0)) from by have := newS (w.alloc (.cells #[.slice A R.length c] 25 (0, 0))) (.cells #[.int .i64 i] 3 (0, 0)); simpa using this)
  have HV := Lib.hid (h.keep hB0)
  have HB := Lib.hid hB0
  clear hB0 h
  go_enter Tryz.func74, Tryz.ntmps74
  go_wp2_with fail
  refine (indicesK_v R.length (isKid R i) #[.pointer (some ⟨w.heap.size, 0, none⟩), .pointer (some ⟨w.heap.size + 1, 0, none⟩)] _ hL (fun k hk W hW => kid1_v A c R i k _ _ W (HV.out.keep hW) hk ((cellS ((hW.block _ (ltS H1.out)).trans H1.out) 0)) ((cellS ((hW.block _ (ltS H2.out)).trans H2.out) 0)) (Nat.lt_of_lt_of_le (ltS H1.out) hW.size) (Nat.lt_of_lt_of_le (ltS H2.out) hW.size) hL)).mono ?_
  rintro e w1 ⟨⟨v, rfl, hv⟩, hb1⟩
  have HK := Lib.hid hv
  replace HB := Lib.hid (bkeep2 HB.out hb1)
  clear hv hb1 H1 H2 HV
  go_wp2
  go_ret
  exact ⟨⟨v, rfl, HK.out⟩, HB.out⟩
end Go.Proofs.YtgdkionmeacalabGreat
end
section
namespace Go.Proofs.YtgdkionmeacalabGreat
open Go.RowKit
set_option linter.unusedVariables false
set_option linter.unusedSimpArgs false
set_option maxHeartbeats 4000000
set_option maxRecDepth 100000 in
theorem each_wc (A : Option Addr) (c : Nat) (R : List (List Value)) (U : List Value → List Value) (w : World) (h : RvK 37 w A R) (hl : ∀ vs ∈ R, vs.length = 37 ∧ one vs) (hL : R.length ≤ 1048576) (hU : ∀ vs ∈ R, (U vs).length = 9 ∧ one (U vs))
    (hf : ∀ vs ∈ R, ∀ W, Below w.heap.size w W → Calls Tryz.prog 86 #[.agg vs.toArray] W fun e W' => e = .returned (.agg (U vs).toArray) ∧ Below W.heap.size W W') :
    Calls Tryz.prog 85 #[.slice A R.length c, .func (.func 86) #[] #[]] w fun e w' => e = .returned (.slice (some ⟨w.heap.size, 0, none⟩) R.length R.length) ∧ RbK 9 w' w.heap.size 34 (R.map U) ∧ Below w.heap.size w w' := by
  obtain ⟨fm, hfm, hmk0⟩ := made_Cell
  have HR := Lib.hid (show ∀ vs ∈ R.map U, vs.length = 9 from fun vs hv => by obtain ⟨us, hu, rfl⟩ := List.mem_map.1 hv; exact (hU us hu).1)
  have HU := Lib.hid hU
  have HF := Lib.hid hf
  have HH := Lib.hid h
  have HL := Lib.hid hl
  have HFM := Lib.hid hfm
  clear hU hf h hfm hl
  refine calls_abs Tryz.func85 rfl 26 (by simp only [Tryz.ntmps85]) (by simp) (fun t hsz hargs => ?_)
  have q0 : t[0]? = some (.slice A R.length c) := get_of (by omega) (hargs 0 _ rfl)
  have q1 : t[1]? = some (.func (.func 86) #[] #[]) := get_of (by omega) (hargs 1 _ rfl)
  clear hargs
  obtain ⟨l0, e0⟩ := Array.getElem?_eq_some_iff.1 q0
  obtain ⟨l1, e1⟩ := Array.getElem?_eq_some_iff.1 q1
  refine wp_seq_h fun K hK => ?_
  apply wp_region_lit
  repeat (first | go_step)
  refine hK.out _ _ ?_
  clear hK K
  refine wp_abw (fun t' W' => t'.size = 26 ∧ t'[0]? = some (.slice A R.length c) ∧ t'[1]? = some (.func (.func 86) #[] #[]) ∧ w = W') ⟨by simp [hsz], by simp [q0], by simp [q1], rfl⟩ ?_
  clear hsz q0 l0 e0 q1 l1 e1 t 
  rintro t _ ⟨hsz, q0, q1, rfl⟩
  have hmk := hmk0 R.length w hL
  clear hmk0
  obtain ⟨l0, e0⟩ := Array.getElem?_eq_some_iff.1 q0
  obtain ⟨l1, e1⟩ := Array.getElem?_eq_some_iff.1 q1
  refine wp_seq_h fun K hK => ?_
  apply wp_region_lit
  repeat (first | go_step)
  refine hK.out _ _ ?_
  clear hK K
  refine wp_abw (fun t' W' => t'.size = 26 ∧ t'[0]? = some (.slice A R.length c) ∧ t'[1]? = some (.func (.func 86) #[] #[]) ∧ t'[5]? = some (.slice (some ⟨w.heap.size, 0, none⟩) R.length R.length) ∧ RpK 9 W' w.heap.size 34 R.length 0 (R.map U) ∧ Below w.heap.size w W') ⟨by simp [hsz], by simp [q0], by simp [q1], by simp [hsz], ⟨RpK.new _ (HFM.out _), balloc (Below.refl _ _)⟩⟩ ?_
  clear hsz q0 l0 e0 q1 l1 e1 t hmk
  rintro t W0 ⟨hsz, q0, q1, q5, hP, hB⟩
  refine wp_seq_h fun KE hKE => ?_
  obtain ⟨l0, e0⟩ := Array.getElem?_eq_some_iff.1 q0
  obtain ⟨l1, e1⟩ := Array.getElem?_eq_some_iff.1 q1
  obtain ⟨l5, e5⟩ := Array.getElem?_eq_some_iff.1 q5
  refine wp_seq_h fun K hK => ?_
  apply wp_region_lit
  repeat (first | go_step)
  refine hK.out _ _ ?_
  clear hK K
  refine wp_abw (fun t' W' => t'.size = 26 ∧ t'[1]? = some (.func (.func 86) #[] #[]) ∧ t'[5]? = some (.slice (some ⟨w.heap.size, 0, none⟩) R.length R.length) ∧ t'[11]? = some (.slice A R.length c) ∧ t'[12]? = some (.int .i64 (R.length : Int)) ∧ t'[13]? = some (.int .i64 ((0 : Nat) : Int)) ∧ W0 = W') ⟨by simp [hsz], by simp [q1], by simp [q5], by simp [hsz], by simp [hsz], by simp [hsz], rfl⟩ ?_
  clear hsz q0 l0 e0 q1 l1 e1 q5 l5 e5 t 
  rintro t _ ⟨hsz, q1, q5, q11, q12, q13, rfl⟩
  apply wp_block
  refine wp_loop (fun a W => ∃ (t : Array Value) (k : Nat), a = ⟨t, []⟩ ∧ k ≤ R.length ∧ t.size = 26 ∧ t[1]? = some (.func (.func 86) #[] #[]) ∧ t[5]? = some (.slice (some ⟨w.heap.size, 0, none⟩) R.length R.length) ∧ t[11]? = some (.slice A R.length c) ∧ t[12]? = some (.int .i64 (R.length : Int)) ∧ t[13]? = some (.int .i64 (k : Int)) ∧ RpK 9 W w.heap.size 34 R.length k (R.map U) ∧ Below w.heap.size w W) (fun a _ => R.length - (intOf (a.tmps.getD 13 undef)).toNat) ⟨t, 0, rfl, by omega, hsz, q1, q5, q11, q12, q13, hP, hB⟩ ?_
  clear t hsz q1 q5 q11 q12 q13 hP hB W0
  rintro a W ⟨t, k, rfl, hk, hsz, q1, q5, q11, q12, q13, hP, hB⟩
  have hmu : intOf (t.getD 13 undef) = (k : Int) := by rw [Array.getD_eq_getD_getElem?, q13]; rfl
  dsimp only
  rw [hmu]
  clear hmu
  have HP := Lib.hid hP
  have HB := Lib.hid hB
  clear hP hB
  by_cases hlt : k < R.length
  · have hd : decide ((k : Int) < (R.length : Int)) = true := by simpa using hlt
    obtain ⟨l1, e1⟩ := Array.getElem?_eq_some_iff.1 q1
    obtain ⟨l5, e5⟩ := Array.getElem?_eq_some_iff.1 q5
    obtain ⟨l11, e11⟩ := Array.getElem?_eq_some_iff.1 q11
    obtain ⟨l12, e12⟩ := Array.getElem?_eq_some_iff.1 q12
    obtain ⟨l13, e13⟩ := Array.getElem?_eq_some_iff.1 q13
    refine wp_seq_h fun K hK => ?_
    apply wp_region_lit
    repeat (first | go_step)
    refine hK.out _ _ ?_
    clear hK K
    refine wp_abw (fun t' W' => t'.size = 26 ∧ t'[1]? = some (.func (.func 86) #[] #[]) ∧ t'[5]? = some (.slice (some ⟨w.heap.size, 0, none⟩) R.length R.length) ∧ t'[11]? = some (.slice A R.length c) ∧ t'[12]? = some (.int .i64 (R.length : Int)) ∧ t'[13]? = some (.int .i64 (k : Int)) ∧ t'[14]? = some (.bool true) ∧ W = W') ⟨by simp [hsz], by simp [q1], by simp [q5], by simp [q11], by simp [q12], by simp [q13], by simp [hsz, hd], rfl⟩ ?_
    clear hsz q1 l1 e1 q5 l5 e5 q11 l11 e11 q12 l12 e12 q13 l13 e13 t 
    rintro t _ ⟨hsz, q1, q5, q11, q12, q13, q14, rfl⟩
    clear hd
    refine wp_seq_h fun K1 hK1 => ?_
    refine wp_cond_true (by simp [Act.eval, q14]) ?_
    apply wp_skip
    simp only [Exit.then]
    refine hK1.out _ _ ?_
    clear hK1 K1 q14
    refine wp_seq_h fun KB hKB => ?_
    apply wp_block
    have hget : R[k]? = some R[k] := List.getElem?_eq_getElem hlt
    obtain ⟨b, off, rfl, hb, hps⟩ := (HH.out.keep HB.out) (by omega)
    have hc := hps k _ hget
    have hll := HL.out _ (List.mem_of_getElem? hget)
    obtain ⟨hlv, hov⟩ := hll
    have hUv := HU.out _ (List.mem_of_getElem? hget)
    obtain ⟨hul, huo⟩ := hUv
    have hfv := HF.out _ (List.mem_of_getElem? hget)
    have hmv : (R.map U)[k]? = some (U R[k]) := by rw [List.getElem?_map, hget]; rfl
    obtain ⟨x, hx⟩ : ∃ x, R[k] = x := ⟨_, rfl⟩
    rw [hx] at hc hlv hov hul huo hfv hmv
    have HC := Lib.hid hc
    have HLV := Lib.hid hlv
    have HOV := Lib.hid hov
    have HUL := Lib.hid hul
    have HUO := Lib.hid huo
    have HFV := Lib.hid hfv
    have HMV := Lib.hid hmv
    clear hget hps hc hlv hov hul huo hfv hmv hx
    have hd1 : (k : Int) < (R.length : Int) := by omega
    obtain ⟨l1, e1⟩ := Array.getElem?_eq_some_iff.1 q1
    obtain ⟨l5, e5⟩ := Array.getElem?_eq_some_iff.1 q5
    obtain ⟨l11, e11⟩ := Array.getElem?_eq_some_iff.1 q11
    obtain ⟨l12, e12⟩ := Array.getElem?_eq_some_iff.1 q12
    obtain ⟨l13, e13⟩ := Array.getElem?_eq_some_iff.1 q13
    refine wp_seq_h fun K hK => ?_
    apply wp_region_lit
    repeat (first | ((with_reducible show wpList _ _ _ _ _ _); refine ldK 87 _ x b (off + k * 37) rfl rfl HC.out Tryz.underlying87 rfl (by rw [HLV.out]; exact inf_widget) (by simp [Act.eval, hsz]) ?_) | ((with_reducible show wpList _ _ _ _ _ _); refine allocK 87 37 rfl rfl infz_widget (fun z hz => ?_)) | ((with_reducible show wpList _ _ _ _ _ _); refine stK 87 (.tmp 7) _ x W.heap.size 0 rfl rfl (thereB (newS _ _) (by rw [HLV.out, hz]; omega)) (by rw [HLV.out]; exact inf_widget) HOV.out (by simp [Act.eval, hsz]) (by simp [Act.eval, hsz]) ?_) | go_step)
    refine hK.out _ _ ?_
    clear hK K
    refine wp_abw (fun t' W' => t'.size = 26 ∧ t'[1]? = some (.func (.func 86) #[] #[]) ∧ t'[5]? = some (.slice (some ⟨w.heap.size, 0, none⟩) R.length R.length) ∧ t'[6]? = some (.int .i64 (k : Int)) ∧ t'[7]? = some (.pointer (some ⟨W.heap.size, 0, none⟩)) ∧ t'[11]? = some (.slice (some ⟨b, off, none⟩) R.length c) ∧ t'[12]? = some (.int .i64 (R.length : Int)) ∧ t'[13]? = some (.int .i64 (k : Int)) ∧ W'.rangeAt W.heap.size 0 x ∧ Below W.heap.size W W') ⟨by simp [hsz], by simp [q1], by simp [q5], by simp [hsz], by simp [hsz], by simp [q11], by simp [q12], by simp [q13], ⟨World.rangeAt_setCells_same _ _ _ _ (thereB (newS _ _) (by rw [HLV.out, hz]; omega)), below_setCells (Nat.le_refl _) _ _ _ (balloc (Below.refl _ _))⟩⟩ ?_
    clear hsz q1 l1 e1 q5 l5 e5 q11 l11 e11 q12 l12 e12 q13 l13 e13 t hd1 z hz
    rintro t W1 ⟨hsz, q1, q5, q6, q7, q11, q12, q13, hx1, hb1⟩
    have HX1 := Lib.hid hx1
    have hwg := HP.out.lt
    replace HP := Lib.hid (HP.out.keep hb1)
    replace HB := Lib.hid (bkeep2 HB.out hb1)
    clear hx1 hb1 HC
    have hd1 : (k : Int) < (R.length : Int) := by omega
    obtain ⟨l1, e1⟩ := Array.getElem?_eq_some_iff.1 q1
    obtain ⟨l5, e5⟩ := Array.getElem?_eq_some_iff.1 q5
    obtain ⟨l6, e6⟩ := Array.getElem?_eq_some_iff.1 q6
    obtain ⟨l7, e7⟩ := Array.getElem?_eq_some_iff.1 q7
    obtain ⟨l11, e11⟩ := Array.getElem?_eq_some_iff.1 q11
    obtain ⟨l12, e12⟩ := Array.getElem?_eq_some_iff.1 q12
    obtain ⟨l13, e13⟩ := Array.getElem?_eq_some_iff.1 q13
    apply wp_region_lit
    repeat (first | ((with_reducible show wpList _ _ _ _ _ _); refine ldK 87 _ x W.heap.size 0 rfl rfl HX1.out Tryz.underlying87 rfl (by rw [HLV.out]; exact inf_widget) (by simp [Act.eval, hsz, e7]) ?_) | go_step)
    refine (HFV.out _ HB.out).mono ?_
    rintro e W2 ⟨rfl, hb2⟩
    dsimp only
    have hth : W2.there w.heap.size (k * 9) (U x).length := by rw [HUL.out]; exact (HP.out.keep hb2).there hlt
    repeat (first | ((with_reducible show wpList _ _ _ _ _ _); refine stK 34 _ _ (U x) w.heap.size (k * 9) rfl rfl hth (by rw [HUL.out]; exact inf_Cell) HUO.out (by simp [Act.eval, hsz, hd1]) (by simp [Act.eval, hsz]) ?_) | go_step)
    try simp only [Exit.inBlock]
    refine hKB.out _ _ ?_
    clear hKB KB
    refine wp_abw (fun t' W' => t'.size = 26 ∧ t'[1]? = some (.func (.func 86) #[] #[]) ∧ t'[5]? = some (.slice (some ⟨w.heap.size, 0, none⟩) R.length R.length) ∧ t'[11]? = some (.slice (some ⟨b, off, none⟩) R.length c) ∧ t'[12]? = some (.int .i64 (R.length : Int)) ∧ t'[13]? = some (.int .i64 (k : Int)) ∧ RpK 9 W' w.heap.size 34 R.length (k + 1) (R.map U) ∧ Below w.heap.size w W') ⟨by simp [hsz], by simp [q1], by simp [q5], by simp [q11], by simp [q12], by simp [q13], ⟨(HP.out.keep hb2).step HR.out HMV.out hlt, below_setCells (Nat.le_refl _) _ _ _ (bkeep2 HB.out hb2)⟩⟩ ?_
    clear hsz q1 l1 e1 q5 l5 e5 q6 l6 e6 q7 l7 e7 q11 l11 e11 q12 l12 e12 q13 l13 e13 t hth hb2 HP HB hd1
    rintro t W3 ⟨hsz, q1, q5, q11, q12, q13, hP, hB⟩
    obtain ⟨l1, e1⟩ := Array.getElem?_eq_some_iff.1 q1
    obtain ⟨l5, e5⟩ := Array.getElem?_eq_some_iff.1 q5
    obtain ⟨l11, e11⟩ := Array.getElem?_eq_some_iff.1 q11
    obtain ⟨l12, e12⟩ := Array.getElem?_eq_some_iff.1 q12
    obtain ⟨l13, e13⟩ := Array.getElem?_eq_some_iff.1 q13
    apply wp_region_lit
    repeat go_step
    try simp only [Exit.then]
    refine ⟨⟨_, k + 1, rfl, by omega, by simp [hsz], by simp [q1], by simp [q5], by simp [q11], by simp [q12], by simp [hsz], hP, hB⟩, ?_⟩
    · simp [hsz, intOf]
      omega
  · have hd : decide ((k : Int) < (R.length : Int)) = false := decide_eq_false (by omega)
    obtain ⟨l1, e1⟩ := Array.getElem?_eq_some_iff.1 q1
    obtain ⟨l5, e5⟩ := Array.getElem?_eq_some_iff.1 q5
    obtain ⟨l11, e11⟩ := Array.getElem?_eq_some_iff.1 q11
    obtain ⟨l12, e12⟩ := Array.getElem?_eq_some_iff.1 q12
    obtain ⟨l13, e13⟩ := Array.getElem?_eq_some_iff.1 q13
    refine wp_seq_h fun K hK => ?_
    apply wp_region_lit
    repeat (first | go_step)
    refine hK.out _ _ ?_
    clear hK K
    refine wp_abw (fun t' W' => t'.size = 26 ∧ t'[1]? = some (.func (.func 86) #[] #[]) ∧ t'[5]? = some (.slice (some ⟨w.heap.size, 0, none⟩) R.length R.length) ∧ t'[11]? = some (.slice A R.length c) ∧ t'[12]? = some (.int .i64 (R.length : Int)) ∧ t'[13]? = some (.int .i64 (k : Int)) ∧ t'[14]? = some (.bool false) ∧ W = W') ⟨by simp [hsz], by simp [q1], by simp [q5], by simp [q11], by simp [q12], by simp [q13], by simp [hsz, hd], rfl⟩ ?_
    clear hsz q1 l1 e1 q5 l5 e5 q11 l11 e11 q12 l12 e12 q13 l13 e13 t 
    rintro t _ ⟨hsz, q1, q5, q11, q12, q13, q14, rfl⟩
    refine wp_seq_h fun K1 hK1 => ?_
    refine wp_cond_false (by simp [Act.eval, q14]) ?_
    apply wp_exit
    simp only [Exit.then, Exit.inBlock, if_true]
    refine hKE.out _ _ ?_
    clear hd
    obtain ⟨l1, e1⟩ := Array.getElem?_eq_some_iff.1 q1
    obtain ⟨l5, e5⟩ := Array.getElem?_eq_some_iff.1 q5
    obtain ⟨l11, e11⟩ := Array.getElem?_eq_some_iff.1 q11
    obtain ⟨l12, e12⟩ := Array.getElem?_eq_some_iff.1 q12
    obtain ⟨l13, e13⟩ := Array.getElem?_eq_some_iff.1 q13
    obtain ⟨l14, e14⟩ := Array.getElem?_eq_some_iff.1 q14
    repeat go_step
    refine bodyPost_ret (results_tmp rfl _ _ _) rfl ?_
    exact ⟨by simp [hsz], HP.out.whole (by simp) (by omega), HB.out⟩
end Go.Proofs.YtgdkionmeacalabGreat
end
section
namespace Go.Proofs.YtgdkionmeacalabGreat
open Go.RowKit
set_option linter.unusedVariables false
set_option linter.unusedSimpArgs false
set_option maxHeartbeats 4000000
set_option maxRecDepth 100000 in
theorem each_wl (A : Option Addr) (c : Nat) (R : List (List Value)) (U : List Value → List Value) (w : World) (h : RvK 37 w A R) (hl : ∀ vs ∈ R, vs.length = 37 ∧ one vs) (hL : R.length ≤ 1048576) (hU : ∀ vs ∈ R, (U vs).length = 9 ∧ one (U vs))
    (hf : ∀ vs ∈ R, ∀ W, Below w.heap.size w W → Calls Tryz.prog 88 #[.agg vs.toArray] W fun e W' => e = .returned (.agg (U vs).toArray) ∧ Below W.heap.size W W') :
    Calls Tryz.prog 87 #[.slice A R.length c, .func (.func 88) #[] #[]] w fun e w' => e = .returned (.slice (some ⟨w.heap.size, 0, none⟩) R.length R.length) ∧ RbK 9 w' w.heap.size 36 (R.map U) ∧ Below w.heap.size w w' := by
  obtain ⟨fm, hfm, hmk0⟩ := made_Place
  have HR := Lib.hid (show ∀ vs ∈ R.map U, vs.length = 9 from fun vs hv => by obtain ⟨us, hu, rfl⟩ := List.mem_map.1 hv; exact (hU us hu).1)
  have HU := Lib.hid hU
  have HF := Lib.hid hf
  have HH := Lib.hid h
  have HL := Lib.hid hl
  have HFM := Lib.hid hfm
  clear hU hf h hfm hl
  refine calls_abs Tryz.func87 rfl 26 (by simp only [Tryz.ntmps87]) (by simp) (fun t hsz hargs => ?_)
  have q0 : t[0]? = some (.slice A R.length c) := get_of (by omega) (hargs 0 _ rfl)
  have q1 : t[1]? = some (.func (.func 88) #[] #[]) := get_of (by omega) (hargs 1 _ rfl)
  clear hargs
  obtain ⟨l0, e0⟩ := Array.getElem?_eq_some_iff.1 q0
  obtain ⟨l1, e1⟩ := Array.getElem?_eq_some_iff.1 q1
  refine wp_seq_h fun K hK => ?_
  apply wp_region_lit
  repeat (first | go_step)
  refine hK.out _ _ ?_
  clear hK K
  refine wp_abw (fun t' W' => t'.size = 26 ∧ t'[0]? = some (.slice A R.length c) ∧ t'[1]? = some (.func (.func 88) #[] #[]) ∧ w = W') ⟨by simp [hsz], by simp [q0], by simp [q1], rfl⟩ ?_
  clear hsz q0 l0 e0 q1 l1 e1 t 
  rintro t _ ⟨hsz, q0, q1, rfl⟩
  have hmk := hmk0 R.length w hL
  clear hmk0
  obtain ⟨l0, e0⟩ := Array.getElem?_eq_some_iff.1 q0
  obtain ⟨l1, e1⟩ := Array.getElem?_eq_some_iff.1 q1
  refine wp_seq_h fun K hK => ?_
  apply wp_region_lit
  repeat (first | go_step)
  refine hK.out _ _ ?_
  clear hK K
  refine wp_abw (fun t' W' => t'.size = 26 ∧ t'[0]? = some (.slice A R.length c) ∧ t'[1]? = some (.func (.func 88) #[] #[]) ∧ t'[5]? = some (.slice (some ⟨w.heap.size, 0, none⟩) R.length R.length) ∧ RpK 9 W' w.heap.size 36 R.length 0 (R.map U) ∧ Below w.heap.size w W') ⟨by simp [hsz], by simp [q0], by simp [q1], by simp [hsz], ⟨RpK.new _ (HFM.out _), balloc (Below.refl _ _)⟩⟩ ?_
  clear hsz q0 l0 e0 q1 l1 e1 t hmk
  rintro t W0 ⟨hsz, q0, q1, q5, hP, hB⟩
  refine wp_seq_h fun KE hKE => ?_
  obtain ⟨l0, e0⟩ := Array.getElem?_eq_some_iff.1 q0
  obtain ⟨l1, e1⟩ := Array.getElem?_eq_some_iff.1 q1
  obtain ⟨l5, e5⟩ := Array.getElem?_eq_some_iff.1 q5
  refine wp_seq_h fun K hK => ?_
  apply wp_region_lit
  repeat (first | go_step)
  refine hK.out _ _ ?_
  clear hK K
  refine wp_abw (fun t' W' => t'.size = 26 ∧ t'[1]? = some (.func (.func 88) #[] #[]) ∧ t'[5]? = some (.slice (some ⟨w.heap.size, 0, none⟩) R.length R.length) ∧ t'[11]? = some (.slice A R.length c) ∧ t'[12]? = some (.int .i64 (R.length : Int)) ∧ t'[13]? = some (.int .i64 ((0 : Nat) : Int)) ∧ W0 = W') ⟨by simp [hsz], by simp [q1], by simp [q5], by simp [hsz], by simp [hsz], by simp [hsz], rfl⟩ ?_
  clear hsz q0 l0 e0 q1 l1 e1 q5 l5 e5 t 
  rintro t _ ⟨hsz, q1, q5, q11, q12, q13, rfl⟩
  apply wp_block
  refine wp_loop (fun a W => ∃ (t : Array Value) (k : Nat), a = ⟨t, []⟩ ∧ k ≤ R.length ∧ t.size = 26 ∧ t[1]? = some (.func (.func 88) #[] #[]) ∧ t[5]? = some (.slice (some ⟨w.heap.size, 0, none⟩) R.length R.length) ∧ t[11]? = some (.slice A R.length c) ∧ t[12]? = some (.int .i64 (R.length : Int)) ∧ t[13]? = some (.int .i64 (k : Int)) ∧ RpK 9 W w.heap.size 36 R.length k (R.map U) ∧ Below w.heap.size w W) (fun a _ => R.length - (intOf (a.tmps.getD 13 undef)).toNat) ⟨t, 0, rfl, by omega, hsz, q1, q5, q11, q12, q13, hP, hB⟩ ?_
  clear t hsz q1 q5 q11 q12 q13 hP hB W0
  rintro a W ⟨t, k, rfl, hk, hsz, q1, q5, q11, q12, q13, hP, hB⟩
  have hmu : intOf (t.getD 13 undef) = (k : Int) := by rw [Array.getD_eq_getD_getElem?, q13]; rfl
  dsimp only
  rw [hmu]
  clear hmu
  have HP := Lib.hid hP
  have HB := Lib.hid hB
  clear hP hB
  by_cases hlt : k < R.length
  · have hd : decide ((k : Int) < (R.length : Int)) = true := by simpa using hlt
    obtain ⟨l1, e1⟩ := Array.getElem?_eq_some_iff.1 q1
    obtain ⟨l5, e5⟩ := Array.getElem?_eq_some_iff.1 q5
    obtain ⟨l11, e11⟩ := Array.getElem?_eq_some_iff.1 q11
    obtain ⟨l12, e12⟩ := Array.getElem?_eq_some_iff.1 q12
    obtain ⟨l13, e13⟩ := Array.getElem?_eq_some_iff.1 q13
    refine wp_seq_h fun K hK => ?_
    apply wp_region_lit
    repeat (first | go_step)
    refine hK.out _ _ ?_
    clear hK K
    refine wp_abw (fun t' W' => t'.size = 26 ∧ t'[1]? = some (.func (.func 88) #[] #[]) ∧ t'[5]? = some (.slice (some ⟨w.heap.size, 0, none⟩) R.length R.length) ∧ t'[11]? = some (.slice A R.length c) ∧ t'[12]? = some (.int .i64 (R.length : Int)) ∧ t'[13]? = some (.int .i64 (k : Int)) ∧ t'[14]? = some (.bool true) ∧ W = W') ⟨by simp [hsz], by simp [q1], by simp [q5], by simp [q11], by simp [q12], by simp [q13], by simp [hsz, hd], rfl⟩ ?_
    clear hsz q1 l1 e1 q5 l5 e5 q11 l11 e11 q12 l12 e12 q13 l13 e13 t 
    rintro t _ ⟨hsz, q1, q5, q11, q12, q13, q14, rfl⟩
    clear hd
    refine wp_seq_h fun K1 hK1 => ?_
    refine wp_cond_true (by simp [Act.eval, q14]) ?_
    apply wp_skip
    simp only [Exit.then]
    refine hK1.out _ _ ?_
    clear hK1 K1 q14
    refine wp_seq_h fun KB hKB => ?_
    apply wp_block
    have hget : R[k]? = some R[k] := List.getElem?_eq_getElem hlt
    obtain ⟨b, off, rfl, hb, hps⟩ := (HH.out.keep HB.out) (by omega)
    have hc := hps k _ hget
    have hll := HL.out _ (List.mem_of_getElem? hget)
    obtain ⟨hlv, hov⟩ := hll
    have hUv := HU.out _ (List.mem_of_getElem? hget)
    obtain ⟨hul, huo⟩ := hUv
    have hfv := HF.out _ (List.mem_of_getElem? hget)
    have hmv : (R.map U)[k]? = some (U R[k]) := by rw [List.getElem?_map, hget]; rfl
    obtain ⟨x, hx⟩ : ∃ x, R[k] = x := ⟨_, rfl⟩
    rw [hx] at hc hlv hov hul huo hfv hmv
    have HC := Lib.hid hc
    have HLV := Lib.hid hlv
    have HOV := Lib.hid hov
    have HUL := Lib.hid hul
    have HUO := Lib.hid huo
    have HFV := Lib.hid hfv
    have HMV := Lib.hid hmv
    clear hget hps hc hlv hov hul huo hfv hmv hx
    have hd1 : (k : Int) < (R.length : Int) := by omega
    obtain ⟨l1, e1⟩ := Array.getElem?_eq_some_iff.1 q1
    obtain ⟨l5, e5⟩ := Array.getElem?_eq_some_iff.1 q5
    obtain ⟨l11, e11⟩ := Array.getElem?_eq_some_iff.1 q11
    obtain ⟨l12, e12⟩ := Array.getElem?_eq_some_iff.1 q12
    obtain ⟨l13, e13⟩ := Array.getElem?_eq_some_iff.1 q13
    refine wp_seq_h fun K hK => ?_
    apply wp_region_lit
    repeat (first | ((with_reducible show wpList _ _ _ _ _ _); refine ldK 87 _ x b (off + k * 37) rfl rfl HC.out Tryz.underlying87 rfl (by rw [HLV.out]; exact inf_widget) (by simp [Act.eval, hsz]) ?_) | ((with_reducible show wpList _ _ _ _ _ _); refine allocK 87 37 rfl rfl infz_widget (fun z hz => ?_)) | ((with_reducible show wpList _ _ _ _ _ _); refine stK 87 (.tmp 7) _ x W.heap.size 0 rfl rfl (thereB (newS _ _) (by rw [HLV.out, hz]; omega)) (by rw [HLV.out]; exact inf_widget) HOV.out (by simp [Act.eval, hsz]) (by simp [Act.eval, hsz]) ?_) | go_step)
    refine hK.out _ _ ?_
    clear hK K
    refine wp_abw (fun t' W' => t'.size = 26 ∧ t'[1]? = some (.func (.func 88) #[] #[]) ∧ t'[5]? = some (.slice (some ⟨w.heap.size, 0, none⟩) R.length R.length) ∧ t'[6]? = some (.int .i64 (k : Int)) ∧ t'[7]? = some (.pointer (some ⟨W.heap.size, 0, none⟩)) ∧ t'[11]? = some (.slice (some ⟨b, off, none⟩) R.length c) ∧ t'[12]? = some (.int .i64 (R.length : Int)) ∧ t'[13]? = some (.int .i64 (k : Int)) ∧ W'.rangeAt W.heap.size 0 x ∧ Below W.heap.size W W') ⟨by simp [hsz], by simp [q1], by simp [q5], by simp [hsz], by simp [hsz], by simp [q11], by simp [q12], by simp [q13], ⟨World.rangeAt_setCells_same _ _ _ _ (thereB (newS _ _) (by rw [HLV.out, hz]; omega)), below_setCells (Nat.le_refl _) _ _ _ (balloc (Below.refl _ _))⟩⟩ ?_
    clear hsz q1 l1 e1 q5 l5 e5 q11 l11 e11 q12 l12 e12 q13 l13 e13 t hd1 z hz
    rintro t W1 ⟨hsz, q1, q5, q6, q7, q11, q12, q13, hx1, hb1⟩
    have HX1 := Lib.hid hx1
    have hwg := HP.out.lt
    replace HP := Lib.hid (HP.out.keep hb1)
    replace HB := Lib.hid (bkeep2 HB.out hb1)
    clear hx1 hb1 HC
    have hd1 : (k : Int) < (R.length : Int) := by omega
    obtain ⟨l1, e1⟩ := Array.getElem?_eq_some_iff.1 q1
    obtain ⟨l5, e5⟩ := Array.getElem?_eq_some_iff.1 q5
    obtain ⟨l6, e6⟩ := Array.getElem?_eq_some_iff.1 q6
    obtain ⟨l7, e7⟩ := Array.getElem?_eq_some_iff.1 q7
    obtain ⟨l11, e11⟩ := Array.getElem?_eq_some_iff.1 q11
    obtain ⟨l12, e12⟩ := Array.getElem?_eq_some_iff.1 q12
    obtain ⟨l13, e13⟩ := Array.getElem?_eq_some_iff.1 q13
    apply wp_region_lit
    repeat (first | ((with_reducible show wpList _ _ _ _ _ _); refine ldK 87 _ x W.heap.size 0 rfl rfl HX1.out Tryz.underlying87 rfl (by rw [HLV.out]; exact inf_widget) (by simp [Act.eval, hsz, e7]) ?_) | go_step)
    refine (HFV.out _ HB.out).mono ?_
    rintro e W2 ⟨rfl, hb2⟩
    dsimp only
    have hth : W2.there w.heap.size (k * 9) (U x).length := by rw [HUL.out]; exact (HP.out.keep hb2).there hlt
    repeat (first | ((with_reducible show wpList _ _ _ _ _ _); refine stK 36 _ _ (U x) w.heap.size (k * 9) rfl rfl hth (by rw [HUL.out]; exact inf_Place) HUO.out (by simp [Act.eval, hsz, hd1]) (by simp [Act.eval, hsz]) ?_) | go_step)
    try simp only [Exit.inBlock]
    refine hKB.out _ _ ?_
    clear hKB KB
    refine wp_abw (fun t' W' => t'.size = 26 ∧ t'[1]? = some (.func (.func 88) #[] #[]) ∧ t'[5]? = some (.slice (some ⟨w.heap.size, 0, none⟩) R.length R.length) ∧ t'[11]? = some (.slice (some ⟨b, off, none⟩) R.length c) ∧ t'[12]? = some (.int .i64 (R.length : Int)) ∧ t'[13]? = some (.int .i64 (k : Int)) ∧ RpK 9 W' w.heap.size 36 R.length (k + 1) (R.map U) ∧ Below w.heap.size w W') ⟨by simp [hsz], by simp [q1], by simp [q5], by simp [q11], by simp [q12], by simp [q13], ⟨(HP.out.keep hb2).step HR.out HMV.out hlt, below_setCells (Nat.le_refl _) _ _ _ (bkeep2 HB.out hb2)⟩⟩ ?_
    clear hsz q1 l1 e1 q5 l5 e5 q6 l6 e6 q7 l7 e7 q11 l11 e11 q12 l12 e12 q13 l13 e13 t hth hb2 HP HB hd1
    rintro t W3 ⟨hsz, q1, q5, q11, q12, q13, hP, hB⟩
    obtain ⟨l1, e1⟩ := Array.getElem?_eq_some_iff.1 q1
    obtain ⟨l5, e5⟩ := Array.getElem?_eq_some_iff.1 q5
    obtain ⟨l11, e11⟩ := Array.getElem?_eq_some_iff.1 q11
    obtain ⟨l12, e12⟩ := Array.getElem?_eq_some_iff.1 q12
    obtain ⟨l13, e13⟩ := Array.getElem?_eq_some_iff.1 q13
    apply wp_region_lit
    repeat go_step
    try simp only [Exit.then]
    refine ⟨⟨_, k + 1, rfl, by omega, by simp [hsz], by simp [q1], by simp [q5], by simp [q11], by simp [q12], by simp [hsz], hP, hB⟩, ?_⟩
    · simp [hsz, intOf]
      omega
  · have hd : decide ((k : Int) < (R.length : Int)) = false := decide_eq_false (by omega)
    obtain ⟨l1, e1⟩ := Array.getElem?_eq_some_iff.1 q1
    obtain ⟨l5, e5⟩ := Array.getElem?_eq_some_iff.1 q5
    obtain ⟨l11, e11⟩ := Array.getElem?_eq_some_iff.1 q11
    obtain ⟨l12, e12⟩ := Array.getElem?_eq_some_iff.1 q12
    obtain ⟨l13, e13⟩ := Array.getElem?_eq_some_iff.1 q13
    refine wp_seq_h fun K hK => ?_
    apply wp_region_lit
    repeat (first | go_step)
    refine hK.out _ _ ?_
    clear hK K
    refine wp_abw (fun t' W' => t'.size = 26 ∧ t'[1]? = some (.func (.func 88) #[] #[]) ∧ t'[5]? = some (.slice (some ⟨w.heap.size, 0, none⟩) R.length R.length) ∧ t'[11]? = some (.slice A R.length c) ∧ t'[12]? = some (.int .i64 (R.length : Int)) ∧ t'[13]? = some (.int .i64 (k : Int)) ∧ t'[14]? = some (.bool false) ∧ W = W') ⟨by simp [hsz], by simp [q1], by simp [q5], by simp [q11], by simp [q12], by simp [q13], by simp [hsz, hd], rfl⟩ ?_
    clear hsz q1 l1 e1 q5 l5 e5 q11 l11 e11 q12 l12 e12 q13 l13 e13 t 
    rintro t _ ⟨hsz, q1, q5, q11, q12, q13, q14, rfl⟩
    refine wp_seq_h fun K1 hK1 => ?_
    refine wp_cond_false (by simp [Act.eval, q14]) ?_
    apply wp_exit
    simp only [Exit.then, Exit.inBlock, if_true]
    refine hKE.out _ _ ?_
    clear hd
    obtain ⟨l1, e1⟩ := Array.getElem?_eq_some_iff.1 q1
    obtain ⟨l5, e5⟩ := Array.getElem?_eq_some_iff.1 q5
    obtain ⟨l11, e11⟩ := Array.getElem?_eq_some_iff.1 q11
    obtain ⟨l12, e12⟩ := Array.getElem?_eq_some_iff.1 q12
    obtain ⟨l13, e13⟩ := Array.getElem?_eq_some_iff.1 q13
    obtain ⟨l14, e14⟩ := Array.getElem?_eq_some_iff.1 q14
    repeat go_step
    refine bodyPost_ret (results_tmp rfl _ _ _) rfl ?_
    exact ⟨by simp [hsz], HP.out.whole (by simp) (by omega), HB.out⟩
end Go.Proofs.YtgdkionmeacalabGreat
end
section
namespace Go.Proofs.YtgdkionmeacalabGreat
open Go.RowKit
set_option linter.unusedVariables false
set_option linter.unusedSimpArgs false
set_option maxHeartbeats 4000000
set_option maxRecDepth 100000 in
theorem each_wp (A : Option Addr) (c : Nat) (R : List (List Value)) (U : List Value → List Value) (w : World) (h : RvK 37 w A R) (hl : ∀ vs ∈ R, vs.length = 37 ∧ one vs) (hL : R.length ≤ 1048576) (hU : ∀ vs ∈ R, (U vs).length = 9 ∧ one (U vs))
    (hf : ∀ vs ∈ R, ∀ W, Below w.heap.size w W → Calls Tryz.prog 90 #[.agg vs.toArray] W fun e W' => e = .returned (.agg (U vs).toArray) ∧ Below W.heap.size W W') :
    Calls Tryz.prog 89 #[.slice A R.length c, .func (.func 90) #[] #[]] w fun e w' => e = .returned (.slice (some ⟨w.heap.size, 0, none⟩) R.length R.length) ∧ RbK 9 w' w.heap.size 32 (R.map U) ∧ Below w.heap.size w w' := by
  obtain ⟨fm, hfm, hmk0⟩ := made_Pack
  have HR := Lib.hid (show ∀ vs ∈ R.map U, vs.length = 9 from fun vs hv => by obtain ⟨us, hu, rfl⟩ := List.mem_map.1 hv; exact (hU us hu).1)
  have HU := Lib.hid hU
  have HF := Lib.hid hf
  have HH := Lib.hid h
  have HL := Lib.hid hl
  have HFM := Lib.hid hfm
  clear hU hf h hfm hl
  refine calls_abs Tryz.func89 rfl 26 (by simp only [Tryz.ntmps89]) (by simp) (fun t hsz hargs => ?_)
  have q0 : t[0]? = some (.slice A R.length c) := get_of (by omega) (hargs 0 _ rfl)
  have q1 : t[1]? = some (.func (.func 90) #[] #[]) := get_of (by omega) (hargs 1 _ rfl)
  clear hargs
  obtain ⟨l0, e0⟩ := Array.getElem?_eq_some_iff.1 q0
  obtain ⟨l1, e1⟩ := Array.getElem?_eq_some_iff.1 q1
  refine wp_seq_h fun K hK => ?_
  apply wp_region_lit
  repeat (first | go_step)
  refine hK.out _ _ ?_
  clear hK K
  refine wp_abw (fun t' W' => t'.size = 26 ∧ t'[0]? = some (.slice A R.length c) ∧ t'[1]? = some (.func (.func 90) #[] #[]) ∧ w = W') ⟨by simp [hsz], by simp [q0], by simp [q1], rfl⟩ ?_
  clear hsz q0 l0 e0 q1 l1 e1 t 
  rintro t _ ⟨hsz, q0, q1, rfl⟩
  have hmk := hmk0 R.length w hL
  clear hmk0
  obtain ⟨l0, e0⟩ := Array.getElem?_eq_some_iff.1 q0
  obtain ⟨l1, e1⟩ := Array.getElem?_eq_some_iff.1 q1
  refine wp_seq_h fun K hK => ?_
  apply wp_region_lit
  repeat (first | go_step)
  refine hK.out _ _ ?_
  clear hK K
  refine wp_abw (fun t' W' => t'.size = 26 ∧ t'[0]? = some (.slice A R.length c) ∧ t'[1]? = some (.func (.func 90) #[] #[]) ∧ t'[5]? = some (.slice (some ⟨w.heap.size, 0, none⟩) R.length R.length) ∧ RpK 9 W' w.heap.size 32 R.length 0 (R.map U) ∧ Below w.heap.size w W') ⟨by simp [hsz], by simp [q0], by simp [q1], by simp [hsz], ⟨RpK.new _ (HFM.out _), balloc (Below.refl _ _)⟩⟩ ?_
  clear hsz q0 l0 e0 q1 l1 e1 t hmk
  rintro t W0 ⟨hsz, q0, q1, q5, hP, hB⟩
  refine wp_seq_h fun KE hKE => ?_
  obtain ⟨l0, e0⟩ := Array.getElem?_eq_some_iff.1 q0
  obtain ⟨l1, e1⟩ := Array.getElem?_eq_some_iff.1 q1
  obtain ⟨l5, e5⟩ := Array.getElem?_eq_some_iff.1 q5
  refine wp_seq_h fun K hK => ?_
  apply wp_region_lit
  repeat (first | go_step)
  refine hK.out _ _ ?_
  clear hK K
  refine wp_abw (fun t' W' => t'.size = 26 ∧ t'[1]? = some (.func (.func 90) #[] #[]) ∧ t'[5]? = some (.slice (some ⟨w.heap.size, 0, none⟩) R.length R.length) ∧ t'[11]? = some (.slice A R.length c) ∧ t'[12]? = some (.int .i64 (R.length : Int)) ∧ t'[13]? = some (.int .i64 ((0 : Nat) : Int)) ∧ W0 = W') ⟨by simp [hsz], by simp [q1], by simp [q5], by simp [hsz], by simp [hsz], by simp [hsz], rfl⟩ ?_
  clear hsz q0 l0 e0 q1 l1 e1 q5 l5 e5 t 
  rintro t _ ⟨hsz, q1, q5, q11, q12, q13, rfl⟩
  apply wp_block
  refine wp_loop (fun a W => ∃ (t : Array Value) (k : Nat), a = ⟨t, []⟩ ∧ k ≤ R.length ∧ t.size = 26 ∧ t[1]? = some (.func (.func 90) #[] #[]) ∧ t[5]? = some (.slice (some ⟨w.heap.size, 0, none⟩) R.length R.length) ∧ t[11]? = some (.slice A R.length c) ∧ t[12]? = some (.int .i64 (R.length : Int)) ∧ t[13]? = some (.int .i64 (k : Int)) ∧ RpK 9 W w.heap.size 32 R.length k (R.map U) ∧ Below w.heap.size w W) (fun a _ => R.length - (intOf (a.tmps.getD 13 undef)).toNat) ⟨t, 0, rfl, by omega, hsz, q1, q5, q11, q12, q13, hP, hB⟩ ?_
  clear t hsz q1 q5 q11 q12 q13 hP hB W0
  rintro a W ⟨t, k, rfl, hk, hsz, q1, q5, q11, q12, q13, hP, hB⟩
  have hmu : intOf (t.getD 13 undef) = (k : Int) := by rw [Array.getD_eq_getD_getElem?, q13]; rfl
  dsimp only
  rw [hmu]
  clear hmu
  have HP := Lib.hid hP
  have HB := Lib.hid hB
  clear hP hB
  by_cases hlt : k < R.length
  · have hd : decide ((k : Int) < (R.length : Int)) = true := by simpa using hlt
    obtain ⟨l1, e1⟩ := Array.getElem?_eq_some_iff.1 q1
    obtain ⟨l5, e5⟩ := Array.getElem?_eq_some_iff.1 q5
    obtain ⟨l11, e11⟩ := Array.getElem?_eq_some_iff.1 q11
    obtain ⟨l12, e12⟩ := Array.getElem?_eq_some_iff.1 q12
    obtain ⟨l13, e13⟩ := Array.getElem?_eq_some_iff.1 q13
    refine wp_seq_h fun K hK => ?_
    apply wp_region_lit
    repeat (first | go_step)
    refine hK.out _ _ ?_
    clear hK K
    refine wp_abw (fun t' W' => t'.size = 26 ∧ t'[1]? = some (.func (.func 90) #[] #[]) ∧ t'[5]? = some (.slice (some ⟨w.heap.size, 0, none⟩) R.length R.length) ∧ t'[11]? = some (.slice A R.length c) ∧ t'[12]? = some (.int .i64 (R.length : Int)) ∧ t'[13]? = some (.int .i64 (k : Int)) ∧ t'[14]? = some (.bool true) ∧ W = W') ⟨by simp [hsz], by simp [q1], by simp [q5], by simp [q11], by simp [q12], by simp [q13], by simp [hsz, hd], rfl⟩ ?_
    clear hsz q1 l1 e1 q5 l5 e5 q11 l11 e11 q12 l12 e12 q13 l13 e13 t 
    rintro t _ ⟨hsz, q1, q5, q11, q12, q13, q14, rfl⟩
    clear hd
    refine wp_seq_h fun K1 hK1 => ?_
    refine wp_cond_true (by simp [Act.eval, q14]) ?_
    apply wp_skip
    simp only [Exit.then]
    refine hK1.out _ _ ?_
    clear hK1 K1 q14
    refine wp_seq_h fun KB hKB => ?_
    apply wp_block
    have hget : R[k]? = some R[k] := List.getElem?_eq_getElem hlt
    obtain ⟨b, off, rfl, hb, hps⟩ := (HH.out.keep HB.out) (by omega)
    have hc := hps k _ hget
    have hll := HL.out _ (List.mem_of_getElem? hget)
    obtain ⟨hlv, hov⟩ := hll
    have hUv := HU.out _ (List.mem_of_getElem? hget)
    obtain ⟨hul, huo⟩ := hUv
    have hfv := HF.out _ (List.mem_of_getElem? hget)
    have hmv : (R.map U)[k]? = some (U R[k]) := by rw [List.getElem?_map, hget]; rfl
    obtain ⟨x, hx⟩ : ∃ x, R[k] = x := ⟨_, rfl⟩
    rw [hx] at hc hlv hov hul huo hfv hmv
    have HC := Lib.hid hc
    have HLV := Lib.hid hlv
    have HOV := Lib.hid hov
    have HUL := Lib.hid hul
    have HUO := Lib.hid huo
    have HFV := Lib.hid hfv
    have HMV := Lib.hid hmv
    clear hget hps hc hlv hov hul huo hfv hmv hx
    have hd1 : (k : Int) < (R.length : Int) := by omega
    obtain ⟨l1, e1⟩ := Array.getElem?_eq_some_iff.1 q1
    obtain ⟨l5, e5⟩ := Array.getElem?_eq_some_iff.1 q5
    obtain ⟨l11, e11⟩ := Array.getElem?_eq_some_iff.1 q11
    obtain ⟨l12, e12⟩ := Array.getElem?_eq_some_iff.1 q12
    obtain ⟨l13, e13⟩ := Array.getElem?_eq_some_iff.1 q13
    refine wp_seq_h fun K hK => ?_
    apply wp_region_lit
    repeat (first | ((with_reducible show wpList _ _ _ _ _ _); refine ldK 87 _ x b (off + k * 37) rfl rfl HC.out Tryz.underlying87 rfl (by rw [HLV.out]; exact inf_widget) (by simp [Act.eval, hsz]) ?_) | ((with_reducible show wpList _ _ _ _ _ _); refine allocK 87 37 rfl rfl infz_widget (fun z hz => ?_)) | ((with_reducible show wpList _ _ _ _ _ _); refine stK 87 (.tmp 7) _ x W.heap.size 0 rfl rfl (thereB (newS _ _) (by rw [HLV.out, hz]; omega)) (by rw [HLV.out]; exact inf_widget) HOV.out (by simp [Act.eval, hsz]) (by simp [Act.eval, hsz]) ?_) | go_step)
    refine hK.out _ _ ?_
    clear hK K
    refine wp_abw (fun t' W' => t'.size = 26 ∧ t'[1]? = some (.func (.func 90) #[] #[]) ∧ t'[5]? = some (.slice (some ⟨w.heap.size, 0, none⟩) R.length R.length) ∧ t'[6]? = some (.int .i64 (k : Int)) ∧ t'[7]? = some (.pointer (some ⟨W.heap.size, 0, none⟩)) ∧ t'[11]? = some (.slice (some ⟨b, off, none⟩) R.length c) ∧ t'[12]? = some (.int .i64 (R.length : Int)) ∧ t'[13]? = some (.int .i64 (k : Int)) ∧ W'.rangeAt W.heap.size 0 x ∧ Below W.heap.size W W') ⟨by simp [hsz], by simp [q1], by simp [q5], by simp [hsz], by simp [hsz], by simp [q11], by simp [q12], by simp [q13], ⟨World.rangeAt_setCells_same _ _ _ _ (thereB (newS _ _) (by rw [HLV.out, hz]; omega)), below_setCells (Nat.le_refl _) _ _ _ (balloc (Below.refl _ _))⟩⟩ ?_
    clear hsz q1 l1 e1 q5 l5 e5 q11 l11 e11 q12 l12 e12 q13 l13 e13 t hd1 z hz
    rintro t W1 ⟨hsz, q1, q5, q6, q7, q11, q12, q13, hx1, hb1⟩
    have HX1 := Lib.hid hx1
    have hwg := HP.out.lt
    replace HP := Lib.hid (HP.out.keep hb1)
    replace HB := Lib.hid (bkeep2 HB.out hb1)
    clear hx1 hb1 HC
    have hd1 : (k : Int) < (R.length : Int) := by omega
    obtain ⟨l1, e1⟩ := Array.getElem?_eq_some_iff.1 q1
    obtain ⟨l5, e5⟩ := Array.getElem?_eq_some_iff.1 q5
    obtain ⟨l6, e6⟩ := Array.getElem?_eq_some_iff.1 q6
    obtain ⟨l7, e7⟩ := Array.getElem?_eq_some_iff.1 q7
    obtain ⟨l11, e11⟩ := Array.getElem?_eq_some_iff.1 q11
    obtain ⟨l12, e12⟩ := Array.getElem?_eq_some_iff.1 q12
    obtain ⟨l13, e13⟩ := Array.getElem?_eq_some_iff.1 q13
    apply wp_region_lit
    repeat (first | ((with_reducible show wpList _ _ _ _ _ _); refine ldK 87 _ x W.heap.size 0 rfl rfl HX1.out Tryz.underlying87 rfl (by rw [HLV.out]; exact inf_widget) (by simp [Act.eval, hsz, e7]) ?_) | go_step)
    refine (HFV.out _ HB.out).mono ?_
    rintro e W2 ⟨rfl, hb2⟩
    dsimp only
    have hth : W2.there w.heap.size (k * 9) (U x).length := by rw [HUL.out]; exact (HP.out.keep hb2).there hlt
    repeat (first | ((with_reducible show wpList _ _ _ _ _ _); refine stK 32 _ _ (U x) w.heap.size (k * 9) rfl rfl hth (by rw [HUL.out]; exact inf_Pack) HUO.out (by simp [Act.eval, hsz, hd1]) (by simp [Act.eval, hsz]) ?_) | go_step)
    try simp only [Exit.inBlock]
    refine hKB.out _ _ ?_
    clear hKB KB
    refine wp_abw (fun t' W' => t'.size = 26 ∧ t'[1]? = some (.func (.func 90) #[] #[]) ∧ t'[5]? = some (.slice (some ⟨w.heap.size, 0, none⟩) R.length R.length) ∧ t'[11]? = some (.slice (some ⟨b, off, none⟩) R.length c) ∧ t'[12]? = some (.int .i64 (R.length : Int)) ∧ t'[13]? = some (.int .i64 (k : Int)) ∧ RpK 9 W' w.heap.size 32 R.length (k + 1) (R.map U) ∧ Below w.heap.size w W') ⟨by simp [hsz], by simp [q1], by simp [q5], by simp [q11], by simp [q12], by simp [q13], ⟨(HP.out.keep hb2).step HR.out HMV.out hlt, below_setCells (Nat.le_refl _) _ _ _ (bkeep2 HB.out hb2)⟩⟩ ?_
    clear hsz q1 l1 e1 q5 l5 e5 q6 l6 e6 q7 l7 e7 q11 l11 e11 q12 l12 e12 q13 l13 e13 t hth hb2 HP HB hd1
    rintro t W3 ⟨hsz, q1, q5, q11, q12, q13, hP, hB⟩
    obtain ⟨l1, e1⟩ := Array.getElem?_eq_some_iff.1 q1
    obtain ⟨l5, e5⟩ := Array.getElem?_eq_some_iff.1 q5
    obtain ⟨l11, e11⟩ := Array.getElem?_eq_some_iff.1 q11
    obtain ⟨l12, e12⟩ := Array.getElem?_eq_some_iff.1 q12
    obtain ⟨l13, e13⟩ := Array.getElem?_eq_some_iff.1 q13
    apply wp_region_lit
    repeat go_step
    try simp only [Exit.then]
    refine ⟨⟨_, k + 1, rfl, by omega, by simp [hsz], by simp [q1], by simp [q5], by simp [q11], by simp [q12], by simp [hsz], hP, hB⟩, ?_⟩
    · simp [hsz, intOf]
      omega
  · have hd : decide ((k : Int) < (R.length : Int)) = false := decide_eq_false (by omega)
    obtain ⟨l1, e1⟩ := Array.getElem?_eq_some_iff.1 q1
    obtain ⟨l5, e5⟩ := Array.getElem?_eq_some_iff.1 q5
    obtain ⟨l11, e11⟩ := Array.getElem?_eq_some_iff.1 q11
    obtain ⟨l12, e12⟩ := Array.getElem?_eq_some_iff.1 q12
    obtain ⟨l13, e13⟩ := Array.getElem?_eq_some_iff.1 q13
    refine wp_seq_h fun K hK => ?_
    apply wp_region_lit
    repeat (first | go_step)
    refine hK.out _ _ ?_
    clear hK K
    refine wp_abw (fun t' W' => t'.size = 26 ∧ t'[1]? = some (.func (.func 90) #[] #[]) ∧ t'[5]? = some (.slice (some ⟨w.heap.size, 0, none⟩) R.length R.length) ∧ t'[11]? = some (.slice A R.length c) ∧ t'[12]? = some (.int .i64 (R.length : Int)) ∧ t'[13]? = some (.int .i64 (k : Int)) ∧ t'[14]? = some (.bool false) ∧ W = W') ⟨by simp [hsz], by simp [q1], by simp [q5], by simp [q11], by simp [q12], by simp [q13], by simp [hsz, hd], rfl⟩ ?_
    clear hsz q1 l1 e1 q5 l5 e5 q11 l11 e11 q12 l12 e12 q13 l13 e13 t 
    rintro t _ ⟨hsz, q1, q5, q11, q12, q13, q14, rfl⟩
    refine wp_seq_h fun K1 hK1 => ?_
    refine wp_cond_false (by simp [Act.eval, q14]) ?_
    apply wp_exit
    simp only [Exit.then, Exit.inBlock, if_true]
    refine hKE.out _ _ ?_
    clear hd
    obtain ⟨l1, e1⟩ := Array.getElem?_eq_some_iff.1 q1
    obtain ⟨l5, e5⟩ := Array.getElem?_eq_some_iff.1 q5
    obtain ⟨l11, e11⟩ := Array.getElem?_eq_some_iff.1 q11
    obtain ⟨l12, e12⟩ := Array.getElem?_eq_some_iff.1 q12
    obtain ⟨l13, e13⟩ := Array.getElem?_eq_some_iff.1 q13
    obtain ⟨l14, e14⟩ := Array.getElem?_eq_some_iff.1 q14
    repeat go_step
    refine bodyPost_ret (results_tmp rfl _ _ _) rfl ?_
    exact ⟨by simp [hsz], HP.out.whole (by simp) (by omega), HB.out⟩
end Go.Proofs.YtgdkionmeacalabGreat
end
