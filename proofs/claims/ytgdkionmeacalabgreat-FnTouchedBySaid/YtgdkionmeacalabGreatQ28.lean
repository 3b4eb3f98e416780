import Derived.Test.YtgdkionmeacalabGreatQ27
section
namespace Go.Proofs.YtgdkionmeacalabGreat
open Go Go.RowKit
set_option linter.unusedVariables false
set_option linter.unusedSimpArgs false
set_option maxHeartbeats 8000000
attribute [local go_sem] growUpon_value growUpon_skip growUpon_enter
attribute [local go_sem] givesUpon_value givesUpon_skip givesUpon_enter
def neW (a b : Int × Int) : Bool := !(decide (a.1 = b.1) && decide (a.2 = b.2))
theorem run_neqW (a b c d : Int) (w : World) : (binOp .neq 62 (.agg #[.int .i64 a, .int .i64 b]) (.agg #[.int .i64 c, .int .i64 d])).run Tryz.prog w = .ok (.bool (neW (a, b) (c, d))) w := by
  by_cases h1 : a = c <;> by_cases h2 : b = d <;> go_simp <;> simp [neW, h1, h2]
attribute [local go_sem 5000] run_neqW
/-- a block of wishes -/
def WsB (w : World) (g n : Nat) (f : Nat → Int × Int) : Prop := RbK 2 w g 62 ((List.range n).map fun k => valsWi (f k))
theorem WsB.at {w : World} {g n : Nat} {f : Nat → Int × Int} (h : WsB w g n f) {j : Nat} (hj : j < n) : w.cell? ⟨g, j * 2, none⟩ = some (.int .i64 (f j).1) ∧ w.cell? ⟨g, j * 2 + 1, none⟩ = some (.int .i64 (f j).2) := by
  obtain ⟨cs, hh, hs, hc⟩ := h
  have := hc j (valsWi (f j)) (by simpa using hj) (by rw [List.getElem?_map, List.getElem?_range hj]; rfl)
  exact ⟨(cellS hh _).trans (this 0 _ rfl), (cellS hh _).trans (this 1 _ rfl)⟩
theorem WsB.lt {w : World} {g n : Nat} {f : Nat → Int × Int} (h : WsB w g n f) : g < w.heap.size := RpK.lt h
theorem WsB.keep {w w' : World} {g n : Nat} {f : Nat → Int × Int} (h : WsB w g n f) (hb : Below w.heap.size w w') : WsB w' g n f := RpK.keep h hb
set_option maxRecDepth 100000 in
theorem chg1_v (n k g1 g2 b1 b2 : Nat) (f h : Nat → Int × Int) (w : World) (h1 : WsB w g1 n f) (h2 : WsB w g2 n h) (hk : k < n) (x1 : w.cell? ⟨b1, 0, none⟩ = some (.slice (some ⟨g1, 0, none⟩) n n)) (x2 : w.cell? ⟨b2, 0, none⟩ = some (.slice (some ⟨g2, 0, none⟩) n n)) (l1 : b1 < w.heap.size) (l2 : b2 < w.heap.size) (hn : n ≤ 1048576) :
    Calls Tryz.prog 61 #[.int .i64 (k : Int), .pointer (some ⟨b1, 0, none⟩), .pointer (some ⟨b2, 0, none⟩)] w fun e w' => e = .returned (.bool (neW (f k) (h k))) ∧ Below w.heap.size w w' := by
  obtain ⟨y0, y1⟩ := h1.at hk
  obtain ⟨z0, z1⟩ := h2.at hk
  have hl1 := h1.lt
  have hl2 := h2.lt
  have hd1 : (k : Int) < (n : Int) := by omega
  rw [show f k = ((f k).1, (f k).2) from rfl, show h k = ((h k).1, (h k).2) from rfl]
  revert y0 y1 z0 z1
  generalize (f k).1 = p1
  generalize (f k).2 = p2
  generalize (h k).1 = q1
  generalize (h k).2 = q2
  intro y0 y1 z0 z1
  clear h1 h2
  go_enter Tryz.func61, Tryz.ntmps61
  go_wp2_with fail
  refine wp_region_grow 9 1 (· < 9) (by kernel_rfl) (by kernel_rfl) rfl ?_
  iterate 9 (refine wpG_step (fun K hK => ?_); first | (refine grow_skip rfl ?_; go_simp; refine hK _ ?_; clear hK K) | (apply Exists.intro; refine ⟨.inl ⟨rfl, fun w' hw' => ?_⟩, ?_⟩; (focus ((obtain ⟨hc, hf⟩ := bcell hw'.out); (have hcS := bcellS hw'.out); go_simp <;> first | rfl)); (go_simp; refine hK _ ?_; clear hK K)))
  refine wpG_nil ?_
  refine wpK_tail (by kernel_rfl) (fun wa hga => ?_)
  have hba := bdrewn hga.out
  obtain ⟨hca, hfa⟩ := bcell hba
  refine wpAny_one (i := 9) (by kernel_rfl) rfl rfl ?_
  go_simp
  refine wpAny_end (by kernel_rfl) ?_
  refine NoPan.thn ?_
  clear hca hfa
  clear hga
  go_wp2
  go_ret
  exact ⟨rfl, hba⟩
set_option maxRecDepth 100000 in
theorem indicesC_v (n : Nat) (f : Nat → Bool) (caps : Array Value) (w : World) (hn : n ≤ 1048576)
    (hf : ∀ k, k < n → ∀ W, Below w.heap.size w W → Calls Tryz.prog 61 (#[.int .i64 (k : Int)] ++ caps) W fun e W' => e = .returned (.bool (f k)) ∧ Below W.heap.size W W') :
    Calls Tryz.prog 60 #[.int .i64 (n : Int), .func (.func 61) #[] caps] w fun e w' => (∃ v, e = .returned v ∧ GO w.heap.size w' v (idsM f n)) ∧ Below w.heap.size w w' := by
  obtain ⟨ti, tz, ti1, ti2, ti3, ti4, ti5⟩ := int_infoW
  have HF := Lib.hid hf
  clear hf
  refine calls_abs Tryz.func60 rfl 20 (by simp only [Tryz.ntmps60]) (by simp) (fun t hsz hargs => ?_)
  have q0 : t[0]? = some (.int .i64 (n : Int)) := get_of (by omega) (hargs 0 _ rfl)
  have q1 : t[1]? = some (.func (.func 61) #[] caps) := get_of (by omega) (hargs 1 _ rfl)
  clear hargs
  obtain ⟨l0, e0⟩ := Array.getElem?_eq_some_iff.1 q0
  obtain ⟨l1, e1⟩ := Array.getElem?_eq_some_iff.1 q1
  refine wp_seq_h fun K hK => ?_
  apply wp_region_lit
  repeat (first | go_step)
  refine hK.out _ _ ?_
  clear hK K
  refine wp_abw (fun t' W' => t'.size = 20 ∧ t'[0]? = some (.int .i64 (n : Int)) ∧ t'[1]? = some (.func (.func 61) #[] caps) ∧ w = W') ⟨by simp [Act.put, hsz], by simp [Act.put, q0], by simp [Act.put, q1], rfl⟩ ?_
  clear hsz q0 l0 e0 q1 l1 e1 t 
  rintro t _ ⟨hsz, q0, q1, rfl⟩
  obtain ⟨l0, e0⟩ := Array.getElem?_eq_some_iff.1 q0
  obtain ⟨l1, e1⟩ := Array.getElem?_eq_some_iff.1 q1
  refine wp_seq_h fun K hK => ?_
  apply wp_region_lit
  repeat (first | go_step)
  refine hK.out _ _ ?_
  clear hK K
  refine wp_abw (fun t' W' => t'.size = 20 ∧ t'[0]? = some (.int .i64 (n : Int)) ∧ t'[1]? = some (.func (.func 61) #[] caps) ∧ t'[5]? = some (.slice none 0 0) ∧ w = W') ⟨by simp [Act.put, hsz], by simp [Act.put, q0], by simp [Act.put, q1], by simp [Act.put, hsz], rfl⟩ ?_
  clear hsz q0 l0 e0 q1 l1 e1 t 
  rintro t _ ⟨hsz, q0, q1, q5, rfl⟩
  refine wp_seq_h fun KE hKE => ?_
  obtain ⟨l0, e0⟩ := Array.getElem?_eq_some_iff.1 q0
  obtain ⟨l1, e1⟩ := Array.getElem?_eq_some_iff.1 q1
  obtain ⟨l5, e5⟩ := Array.getElem?_eq_some_iff.1 q5
  refine wp_seq_h fun K hK => ?_
  apply wp_region_lit
  repeat (first | go_step)
  refine hK.out _ _ ?_
  clear hK K
  refine wp_abw (fun t' W' => t'.size = 20 ∧ t'[1]? = some (.func (.func 61) #[] caps) ∧ t'[5]? = some (.slice none 0 0) ∧ t'[7]? = some (.int .i64 (n : Int)) ∧ t'[8]? = some (.int .i64 ((0 : Nat) : Int)) ∧ w = W') ⟨by simp [Act.put, hsz], by simp [Act.put, q1], by simp [Act.put, q5], by simp [Act.put, hsz], by simp [Act.put, hsz], rfl⟩ ?_
  clear hsz q0 l0 e0 q1 l1 e1 q5 l5 e5 t 
  rintro t _ ⟨hsz, q1, q5, q7, q8, rfl⟩
  apply wp_block
  refine wp_loop (fun a W => ∃ (t : Array Value) (k : Nat) (v : Value), a = ⟨t, []⟩ ∧ k ≤ n ∧ t.size = 20 ∧ t[1]? = some (.func (.func 61) #[] caps) ∧ t[5]? = some (v) ∧ t[7]? = some (.int .i64 (n : Int)) ∧ t[8]? = some (.int .i64 (k : Int)) ∧ W.ownsRow w.heap.size 3 1 v (idsM f k).length (nvalsW (idsM f k)) ∧ Below w.heap.size w W) (fun a _ => n - (intOf (a.tmps.getD 8 undef)).toNat) ⟨t, 0, .slice none 0 0, rfl, by omega, hsz, q1, q5, q7, q8, ⟨rfl, .inl ⟨rfl, rfl⟩⟩, Below.refl _ _⟩ ?_
  clear t hsz q1 q5 q7 q8
  rintro a W ⟨t, k, v, rfl, hk, hsz, q1, q5, q7, q8, hO, hB⟩
  have hmu : intOf (t.getD 8 undef) = (k : Int) := by rw [Array.getD_eq_getD_getElem?, q8]; rfl
  dsimp only
  rw [hmu]
  clear hmu
  have HO := Lib.hid hO
  have HB := Lib.hid hB
  clear hO hB
  by_cases hlt : k < n
  · have hd : decide ((k : Int) < (n : Int)) = true := by simpa using hlt
    obtain ⟨l1, e1⟩ := Array.getElem?_eq_some_iff.1 q1
    obtain ⟨l5, e5⟩ := Array.getElem?_eq_some_iff.1 q5
    obtain ⟨l7, e7⟩ := Array.getElem?_eq_some_iff.1 q7
    obtain ⟨l8, e8⟩ := Array.getElem?_eq_some_iff.1 q8
    refine wp_seq_h fun K hK => ?_
    apply wp_region_lit
    repeat (first | go_step)
    refine hK.out _ _ ?_
    clear hK K
    refine wp_abw (fun t' W' => t'.size = 20 ∧ t'[1]? = some (.func (.func 61) #[] caps) ∧ t'[5]? = some (v) ∧ t'[7]? = some (.int .i64 (n : Int)) ∧ t'[8]? = some (.int .i64 (k : Int)) ∧ t'[9]? = some (.bool true) ∧ W = W') ⟨by simp [Act.put, hsz], by simp [Act.put, q1], by simp [Act.put, q5], by simp [Act.put, q7], by simp [Act.put, q8], by simp [Act.put, hsz, hd], rfl⟩ ?_
    clear hsz q1 l1 e1 q5 l5 e5 q7 l7 e7 q8 l8 e8 t 
    rintro t _ ⟨hsz, q1, q5, q7, q8, q9, rfl⟩
    clear hd
    refine wp_seq_h fun K1 hK1 => ?_
    refine wp_cond_true (by simp [Act.eval, q9]) ?_
    apply wp_skip
    simp only [Exit.then]
    refine hK1.out _ _ ?_
    clear hK1 K1 q9
    refine wp_seq_h fun KB hKB => ?_
    apply wp_block
    obtain ⟨l1, e1⟩ := Array.getElem?_eq_some_iff.1 q1
    obtain ⟨l5, e5⟩ := Array.getElem?_eq_some_iff.1 q5
    obtain ⟨l7, e7⟩ := Array.getElem?_eq_some_iff.1 q7
    obtain ⟨l8, e8⟩ := Array.getElem?_eq_some_iff.1 q8
    refine wp_seq_h fun K hK => ?_
    apply wp_region_lit
    repeat (first | go_step)
    refine hK.out _ _ ?_
    clear hK K
    refine wp_abw (fun t' W' => t'.size = 20 ∧ t'[1]? = some (.func (.func 61) #[] caps) ∧ t'[5]? = some (v) ∧ t'[6]? = some (.int .i64 (k : Int)) ∧ t'[7]? = some (.int .i64 (n : Int)) ∧ t'[8]? = some (.int .i64 (k : Int)) ∧ W = W') ⟨by simp [Act.put, hsz], by simp [Act.put, q1], by simp [Act.put, q5], by simp [Act.put, hsz], by simp [Act.put, q7], by simp [Act.put, q8], rfl⟩ ?_
    clear hsz q1 l1 e1 q5 l5 e5 q7 l7 e7 q8 l8 e8 t 
    rintro t _ ⟨hsz, q1, q5, q6, q7, q8, rfl⟩
    obtain ⟨l1, e1⟩ := Array.getElem?_eq_some_iff.1 q1
    obtain ⟨l5, e5⟩ := Array.getElem?_eq_some_iff.1 q5
    obtain ⟨l6, e6⟩ := Array.getElem?_eq_some_iff.1 q6
    obtain ⟨l7, e7⟩ := Array.getElem?_eq_some_iff.1 q7
    obtain ⟨l8, e8⟩ := Array.getElem?_eq_some_iff.1 q8
    have hlen := idsM_len f k
    refine wp_seq_h fun K hK => ?_
    apply wp_region_lit
    repeat go_step
    refine (HF.out k hlt _ HB.out).mono ?_
    rintro e W1 ⟨rfl, hb1⟩
    dsimp only
    repeat go_step
    refine hK.out _ _ ?_
    clear hK K
    have hob := HO.out.lt
    replace HO := Lib.hid (own_bw HO.out hb1)
    replace HB := Lib.hid (bkeep2 HB.out hb1)
    have hs1 := hb1.size
    clear hb1
    refine wp_abw (fun t' W' => t'.size = 20 ∧ t'[1]? = some (.func (.func 61) #[] caps) ∧ t'[5]? = some (v) ∧ t'[6]? = some (.int .i64 (k : Int)) ∧ t'[7]? = some (.int .i64 (n : Int)) ∧ t'[8]? = some (.int .i64 (k : Int)) ∧ t'[13]? = some (.bool (f k)) ∧ W1 = W') ⟨by simp [Act.put, hsz], by simp [Act.put, q1], by simp [Act.put, q5], by simp [Act.put, q6], by simp [Act.put, q7], by simp [Act.put, q8], by simp [Act.put, hsz], rfl⟩ ?_
    clear hsz q1 l1 e1 q5 l5 e5 q6 l6 e6 q7 l7 e7 q8 l8 e8 t 
    rintro t _ ⟨hsz, q1, q5, q6, q7, q8, q13, rfl⟩
    obtain ⟨l1, e1⟩ := Array.getElem?_eq_some_iff.1 q1
    by_cases hfk : f k = true
    · have hids := idsM_yes hfk
      rw [hfk] at q13
      refine wp_cond_true (by simp [Act.eval, q13]) ?_
      clear l1 e1 q13
      obtain ⟨l1, e1⟩ := Array.getElem?_eq_some_iff.1 q1
      obtain ⟨l5, e5⟩ := Array.getElem?_eq_some_iff.1 q5
      obtain ⟨l6, e6⟩ := Array.getElem?_eq_some_iff.1 q6
      obtain ⟨l7, e7⟩ := Array.getElem?_eq_some_iff.1 q7
      obtain ⟨l8, e8⟩ := Array.getElem?_eq_some_iff.1 q8
      have hob : ∀ b, v.ownBlock = some b → w.heap.size ≤ b ∧ b < W1.heap.size := HO.out.lt
      have hw1 : w.heap.size ≤ W1.heap.size := HB.out.size
      apply wp_region_lit
      repeat (first | ((with_reducible show wpList _ _ _ _ _ _); refine wpList_append_own _ rfl _ _ 42 rfl w.heap.size 3 ti tz 1 8 Tryz.underlying42 ti1 ti2 ti3 ti4 ti5 (by decide) v _ _ (by simp [Act.eval, Act.put, hsz, e5]) (HO.out.alloc _) ⟨W1.heap.size, 0, none⟩ 1 1 [.int .i64 (k : Int)] (by simp [Act.eval, Act.put, hsz]) rfl (newW _ _ _) (by simp [Value.oneCell']) (by simp only [maxLen]; omega) (by omega) (by simp; omega) ?_) | go_step)
      intro v5 w5 how5 hgr5 _
      have hb5 := below_own HB.out hgr5 hob (Nat.le_refl _) (Nat.le_refl _)
      rw [nvalsW_snoc, ← hids] at how5
      have hlen5 : (idsM f k).length + 1 = (idsM f (k + 1)).length := by rw [hids]; simp
      rw [hlen5] at how5
      clear hlen5 hids
      repeat go_step
      try simp only [Exit.inBlock]
      refine hKB.out _ _ ?_
      clear hKB KB
      refine wp_abw (fun t' W' => t'.size = 20 ∧ t'[1]? = some (.func (.func 61) #[] caps) ∧ t'[5]? = some (v5) ∧ t'[7]? = some (.int .i64 (n : Int)) ∧ t'[8]? = some (.int .i64 (k : Int)) ∧ w5 = W') ⟨by simp [Act.put, hsz], by simp [Act.put, q1], by simp [Act.put, hsz], by simp [Act.put, q7], by simp [Act.put, q8], rfl⟩ ?_
      clear hsz q1 l1 e1 q5 l5 e5 q6 l6 e6 q7 l7 e7 q8 l8 e8 t hob hw1
      rintro t _ ⟨hsz, q1, q5, q7, q8, rfl⟩
      obtain ⟨l1, e1⟩ := Array.getElem?_eq_some_iff.1 q1
      obtain ⟨l5, e5⟩ := Array.getElem?_eq_some_iff.1 q5
      obtain ⟨l7, e7⟩ := Array.getElem?_eq_some_iff.1 q7
      obtain ⟨l8, e8⟩ := Array.getElem?_eq_some_iff.1 q8
      apply wp_region_lit
      repeat go_step
      try simp only [Exit.then]
      refine ⟨⟨_, k + 1, v5, rfl, by omega, by simp [hsz], by simp [q1], by simp [q5], by simp [q7], by simp [hsz], how5, hb5⟩, ?_⟩
      · simp [hsz, intOf]
        omega
    · have hfk' : f k = false := by simpa using hfk
      have hids := idsM_no hfk'
      rw [hfk'] at q13
      refine wp_cond_false (by simp [Act.eval, q13]) ?_
      clear l1 e1 q13
      apply wp_skip
      try simp only [Exit.inBlock]
      refine hKB.out _ _ ?_
      clear hKB KB
      obtain ⟨l1, e1⟩ := Array.getElem?_eq_some_iff.1 q1
      obtain ⟨l5, e5⟩ := Array.getElem?_eq_some_iff.1 q5
      obtain ⟨l6, e6⟩ := Array.getElem?_eq_some_iff.1 q6
      obtain ⟨l7, e7⟩ := Array.getElem?_eq_some_iff.1 q7
      obtain ⟨l8, e8⟩ := Array.getElem?_eq_some_iff.1 q8
      apply wp_region_lit
      repeat go_step
      try simp only [Exit.then]
      refine ⟨⟨_, k + 1, v, rfl, by omega, by simp [hsz], by simp [q1], by simp [q5], by simp [q7], by simp [hsz], by rw [hids]; exact HO.out, HB.out⟩, ?_⟩
      · simp [hsz, intOf]
        omega
  · have hd : decide ((k : Int) < (n : Int)) = false := decide_eq_false (by omega)
    obtain ⟨l1, e1⟩ := Array.getElem?_eq_some_iff.1 q1
    obtain ⟨l5, e5⟩ := Array.getElem?_eq_some_iff.1 q5
    obtain ⟨l7, e7⟩ := Array.getElem?_eq_some_iff.1 q7
    obtain ⟨l8, e8⟩ := Array.getElem?_eq_some_iff.1 q8
    refine wp_seq_h fun K hK => ?_
    apply wp_region_lit
    repeat (first | go_step)
    refine hK.out _ _ ?_
    clear hK K
    refine wp_abw (fun t' W' => t'.size = 20 ∧ t'[1]? = some (.func (.func 61) #[] caps) ∧ t'[5]? = some (v) ∧ t'[7]? = some (.int .i64 (n : Int)) ∧ t'[8]? = some (.int .i64 (k : Int)) ∧ t'[9]? = some (.bool false) ∧ W = W') ⟨by simp [Act.put, hsz], by simp [Act.put, q1], by simp [Act.put, q5], by simp [Act.put, q7], by simp [Act.put, q8], by simp [Act.put, hsz, hd], rfl⟩ ?_
    clear hsz q1 l1 e1 q5 l5 e5 q7 l7 e7 q8 l8 e8 t 
    rintro t _ ⟨hsz, q1, q5, q7, q8, q9, rfl⟩
    refine wp_seq_h fun K1 hK1 => ?_
    refine wp_cond_false (by simp [Act.eval, q9]) ?_
    apply wp_exit
    simp only [Exit.then, Exit.inBlock, if_true]
    refine hKE.out _ _ ?_
    clear hd
    obtain rfl : k = n := by omega
    obtain ⟨l1, e1⟩ := Array.getElem?_eq_some_iff.1 q1
    obtain ⟨l5, e5⟩ := Array.getElem?_eq_some_iff.1 q5
    obtain ⟨l7, e7⟩ := Array.getElem?_eq_some_iff.1 q7
    obtain ⟨l8, e8⟩ := Array.getElem?_eq_some_iff.1 q8
    obtain ⟨l9, e9⟩ := Array.getElem?_eq_some_iff.1 q9
    repeat go_step
    refine bodyPost_ret (results_tmp rfl _ _ _) rfl ?_
    exact ⟨⟨v, by simp [hsz], GO.of HO.out rfl⟩, HB.out⟩
set_option maxRecDepth 100000 in
theorem changed_v (n g1 g2 : Nat) (f h : Nat → Int × Int) (w : World) (h1 : WsB w g1 n f) (h2 : WsB w g2 n h) (hn : n ≤ 1048576) :
    Calls Tryz.prog 30 #[.slice (some ⟨g1, 0, none⟩) n n, .slice (some ⟨g2, 0, none⟩) n n] w fun e w' => (∃ v, e = .returned v ∧ GO w.heap.size w' v (idsM (fun k => neW (f k) (h k)) n)) ∧ Below w.heap.size w w' := by
  have hB0 : Below w.heap.size w ((w.alloc (.cells #[.slice (some ⟨g1, 0, none⟩) n n] 63 (0, 0))).alloc (.cells #[.slice (some ⟨g2, 0, none⟩) n n] 63 (0, 0))) := (balloc (Below.refl _ _)).trans ((balloc (Below.refl _ _)).mono (by simp))
  have H1 := Lib.hid (show ((w.alloc (.cells #[.slice (some ⟨g1, 0, none⟩) n n] 63 (0, 0))).alloc (.cells #[.slice (some ⟨g2, 0, none⟩) n n] 63 (0, 0))).heap[w.heap.size]? = some (.cells #[.slice (some ⟨g1, 0, none⟩) n n] 63 (0, 0)) from (Below.heap_alloc _ _ _ (by simp)).trans (newS _ _))
  have H2 := Lib.hid (show ((w.alloc (.cells #[.slice (some ⟨g1, 0, none⟩) n n] 63 (0, 0))).alloc (.cells #[.slice (some ⟨g2, 0, none⟩) n n] 63 (0, 0))).heap[w.heap.size + 1]? = some (.cells #[.slice (some ⟨g2, 0, none⟩) n n] 63 (0, 0)) from by have := newS (w.alloc (.cells #[.slice (some ⟨g1, 0, none⟩) n n] 63 (0, 0))) (.cells #[.slice (some ⟨g2, 0, none⟩) n n] 63 (0, 0)); simpa using this)
  have HV1 := Lib.hid (h1.keep hB0)
  have HV2 := Lib.hid (h2.keep hB0)
  have HB := Lib.hid hB0
  clear hB0 h1 h2
  go_enter Tryz.func30, Tryz.ntmps30
  go_wp2_with fail
  refine (indicesC_v n (fun k => neW (f k) (h k)) #[.pointer (some ⟨w.heap.size, 0, none⟩), .pointer (some ⟨w.heap.size + 1, 0, none⟩)] _ hn (fun k hk W hW => chg1_v n k g1 g2 _ _ f h W (HV1.out.keep hW) (HV2.out.keep hW) hk (cellS ((hW.block _ (ltS H1.out)).trans H1.out) 0) (cellS ((hW.block _ (ltS H2.out)).trans H2.out) 0) (Nat.lt_of_lt_of_le (ltS H1.out) hW.size) (Nat.lt_of_lt_of_le (ltS H2.out) hW.size) hn)).mono ?_
  rintro e w1 ⟨⟨v, rfl, hv⟩, hb1⟩
  have HK : Hid (GO w.heap.size w1 v (idsM (fun k => neW (f k) (h k)) n)) := Lib.hid (hv.mono (by simp <;> omega))
  replace HB := Lib.hid (bkeep2 HB.out hb1)
  clear hv hb1 H1 H2 HV1 HV2
  go_wp2
  go_ret
  exact ⟨⟨v, rfl, HK.out⟩, HB.out⟩
/-- the nodes that ask for another size then -/
def tchM (L : List Nd) (j : Nat) (u v : Int) : List Int := idsM (fun k => neW (szM L k) (szM (askM L j u v) k)) L.length
theorem WsV.b {lo : Nat} {w : World} {R : List Nr} {x : Value} (h : WsV lo w R x) : ∃ g : Nat, x = .slice (some ⟨g, 0, none⟩) R.length R.length ∧ WsB w g R.length (szM (R.map Nr.n)) := let ⟨g, e, _, k⟩ := h; ⟨g, e, k⟩
theorem askB_iff {L : List Nd} {k : Nat} {i u v : Int} : askB L k i u v = true ↔ treeB L = true ∧ (0 ≤ i ∧ i ≤ (k : Int) - 1) ∧ (0 ≤ u ∧ u ≤ 30) ∧ (0 ≤ v ∧ v ≤ 30) := by
  unfold askB
  simp only [Bool.and_eq_true, rng_iff]
  exact ⟨fun h => ⟨h.1.1, h.1.2, h.2.1, h.2.2⟩, fun h => ⟨⟨h.1, h.2.1⟩, h.2.2.1, h.2.2.2⟩⟩
theorem askM_get {L : List Nd} {j : Nat} {n : Nd} {u v : Int} (h : L[j]? = some n) (i : Nat) : (askM L j u v)[i]? = if i = j then some (wishD n u v) else L[i]? := by
  rw [askM_at h]
  split
  · rename_i e; subst e; exact List.getElem?_set_self (List.getElem?_eq_some_iff.1 h).1
  · rename_i e; exact List.getElem?_set_ne (fun q => e q.symm)
theorem askM_tree {L : List Nd} {j : Nat} {u v : Int} (h : treeB L = true) (hu : 0 ≤ u ∧ u ≤ 30) (hv : 0 ≤ v ∧ v ≤ 30) : treeB (askM L j u v) = true := by
  unfold treeB at h ⊢
  rw [askM_len]
  rw [Bool.and_eq_true] at h ⊢
  refine ⟨h.1, List.all_eq_true.2 fun i hi => ?_⟩
  have h0 := List.all_eq_true.1 h.2 i hi
  cases hj : L[j]? with
  | none => unfold askM; rw [hj]; exact h0
  | some n =>
    have hil : i < L.length := List.mem_range.1 hi
    have hg : L[i]? = some L[i] := List.getElem?_eq_getElem hil
    have hcl : ∀ m : Nd, ∀ i, clB (askM L j u v) i m = clB L i m := fun m i => by
      unfold clB
      split
      · rfl
      · have hq := askM_get (u := u) (v := v) hj m.pa.toNat
        by_cases e : m.pa.toNat = j
        · rw [hq, if_pos e, e, hj]; rfl
        · rw [hq, if_neg e]
    rw [nokB_at hg] at h0
    by_cases e : i = j
    · subst e
      rw [hj] at hg
      obtain rfl : n = L[i] := Option.some.inj hg
      rw [nokB_at (n := wishD L[i] u v) (by rw [askM_get hj, if_pos rfl]), hcl]
      simp only [Bool.and_eq_true] at h0 ⊢
      refine ⟨?_, h0.2.1, ?_⟩
      · have := h0.1
        unfold ndB at this ⊢
        simp only [Bool.and_eq_true, rng_iff] at this ⊢
        exact ⟨⟨hu, hv⟩, this.2⟩
      · exact h0.2.2
    · rw [nokB_at (n := L[i]) (by rw [askM_get hj, if_neg e]; exact hg), hcl]
      exact h0
set_option maxRecDepth 100000 in
theorem TouchedBy_no (A : Option Addr) (c k : Nat) (R : List Nr) (i u v : Int) (w : World) (hk : k = R.length) (h : NrV w A R) (hr : RdR w R) (hL : R.length ≤ 1048576) (hm : ∀ p ∈ R, p.n.cs.length ≤ 1048576 ∧ p.n.rs.length ≤ 1048576) (hb : askB (R.map Nr.n) k i u v = false) :
    Calls Tryz.prog 10 #[.agg #[.slice A k c], .int .i64 i, .int .i64 u, .int .i64 v] w fun e w' => e = .returned (.slice none 0 0) ∧ Below w.heap.size w w' := by
  have hkl : k ≤ 1048576 := by omega
  have hB0 : Below w.heap.size w (w.alloc (.cells #[.slice A k c] 25 (0, 0))) := balloc (Below.refl _ _)
  have HX := Lib.hid (newS w (.cells #[.slice A k c] 25 (0, 0)))
  have HB := Lib.hid hB0
  have HV := Lib.hid (h.keep hB0)
  have HR := Lib.hid (hr.keep hB0)
  have HM := Lib.hid hm
  have HK := Lib.hid hk
  have x0 := cellS HX.out 0
  clear hB0 h hr hm hk
  have HBB := Lib.hid hb
  clear hb
  go_enter Tryz.func10, Tryz.ntmps10
  go_wp2_with fail
  with_reducible refine (AskFor_no A c k R i u v _ HK.out HV.out HR.out hL HM.out HBB.out).mono ?_
  rintro e w1 ⟨rfl, hb⟩
  clear x0
  replace HB := Lib.hid (bkeep2 HB.out hb)
  clear hb
  go_wp2
  go_ret
  exact ⟨rfl, balloc HB.out⟩
set_option maxRecDepth 100000 in
theorem TouchedBy_yes (A : Option Addr) (c k : Nat) (R : List Nr) (j : Nat) (u v : Int) (w : World) (hk : k = R.length) (h : NrV w A R) (hr : RdR w R) (hL : R.length ≤ 1048576) (hm : ∀ p ∈ R, p.n.cs.length ≤ 1048576 ∧ p.n.rs.length ≤ 1048576) (hj : j < R.length) (hb : askB (R.map Nr.n) k (j : Int) u v = true) :
    Calls Tryz.prog 10 #[.agg #[.slice A k c], .int .i64 j, .int .i64 u, .int .i64 v] w fun e w' => (∃ x, e = .returned x ∧ GO w.heap.size w' x (tchM (R.map Nr.n) j u v)) ∧ Below w.heap.size w w' := by
  obtain ⟨ht, -, hu, hv⟩ := askB_iff.1 hb
  have ht2 := askM_tree (j := j) ht hu hv
  have h10 := (tree_len ht).2
  rw [List.length_map] at h10
  have hkl : k ≤ 1048576 := by omega
  have hB0 : Below w.heap.size w (w.alloc (.cells #[.slice A k c] 25 (0, 0))) := balloc (Below.refl _ _)
  have HX := Lib.hid (newS w (.cells #[.slice A k c] 25 (0, 0)))
  have HB := Lib.hid hB0
  have HV := Lib.hid (h.keep hB0)
  have HR := Lib.hid (hr.keep hB0)
  have HM := Lib.hid hm
  have HK := Lib.hid hk
  have x0 := cellS HX.out 0
  clear hB0 h hr hm hk
  have HT := Lib.hid ht
  have HT2 := Lib.hid ht2
  have HWI := Lib.hid (show (rng u 0 30 && rng v 0 30) = true by rw [Bool.and_eq_true, rng_iff, rng_iff]; exact ⟨hu, hv⟩)
  clear hb ht ht2 hu hv
  go_enter Tryz.func10, Tryz.ntmps10
  go_wp2_with fail
  with_reducible refine (AskFor_yes A c k R j u v _ HK.out HV.out HR.out hL HM.out HT.out hj HWI.out).mono ?_
  rintro e w1 ⟨⟨x, rfl, hx⟩, hb⟩
  clear x0
  replace HX := Lib.hid ((hb.block _ (Array.getElem?_eq_some_iff.1 HX.out).1).trans HX.out)
  replace HV := Lib.hid (HV.out.keep hb)
  replace HR := Lib.hid (HR.out.keep hb)
  replace HB := Lib.hid (bkeep2 HB.out hb)
  clear hb
  obtain ⟨A2, c2, S, rfl, h1, h2, h3⟩ := hx.open
  have hsl : S.length = R.length := by have := congrArg List.length h3; rwa [List.length_map, askM_len, List.length_map] at this
  have HSL := Lib.hid hsl
  have HS2 := Lib.hid h3
  clear hx hsl h3
  go_upto_region 4 with fail
  refine wp_genGG (fun W => Below w1.heap.size w1 W ∧ W.heap[w1.heap.size]? = some (.cells #[.slice A2 S.length c2] 25 (0, 0))) ⟨balloc (Below.refl _ _), newS _ _⟩ (fun W2 hw2 => ?_)
  obtain ⟨hbn, hY⟩ := hw2
  have HV2 := Lib.hid (h1.keep hbn)
  have HR2 := Lib.hid (h2.keep hbn)
  have HY := Lib.hid hY
  clear h1 h2 hY
  replace HX := Lib.hid ((hbn.block _ (Array.getElem?_eq_some_iff.1 HX.out).1).trans HX.out)
  replace HV := Lib.hid (HV.out.keep hbn)
  replace HR := Lib.hid (HR.out.keep hbn)
  replace HB := Lib.hid (bkeep2 HB.out hbn)
  clear hbn
  have x0 := cellS HX.out 0
  have y0 := cellS HY.out 0
  have lx := ltS HX.out
  have ly := ltS HY.out
  have hlo := HB.out.size
  have hv := HV.out
  have hr := HR.out
  have hv2 := HV2.out
  have hr2 := HR2.out
  refine wp_region_rx (XV (.agg #[.slice A k c]) :: (fun v z => WsV 0 z R v) :: XV (.agg #[.slice A2 S.length c2]) :: (fun v z => WsV 0 z S v) :: (fun y z => GO w.heap.size z y (tchM (R.map Nr.n) j u v)) :: (fun y z => GO w.heap.size z y (tchM (R.map Nr.n) j u v)) :: []) (by kernel_rfl) (by kernel_rfl) ?hTs ?hops ?hfin
  case hTs =>
    intro T hT
    simp only [List.mem_cons, List.not_mem_nil, or_false] at hT
    rcases hT with rfl | rfl | rfl | rfl | rfl | rfl <;> first | exact stay_V _ | exact stay_T | exact stay_of (fun v a b x g => x.keep g) | exact stay_of (fun v a b x g => x)
  case hops =>
    refine ⟨opOK_rx [(4, none)] (by kernel_rfl) rfl ?_, ?_⟩
    · intro act w' hw' h1
      have hk : ∀ v, act.eval (.const v) = v := fun _ => rfl
      have hf : ∀ f, act.eval (.func f) = .func (.func f) #[] #[] := fun _ => rfl
      generalize act.eval = ρ at *
      replace h1 : ρ (.tmp 4) = .pointer (some ⟨w.heap.size, 0, none⟩) := h1
      refine gx_gen (fun K hK => ?_)
      obtain ⟨hc, hf'⟩ := bcell (bdrewn hw'.out)
      go_simp
      exact hK _ _ ⟨rfl, Gr.refl _⟩
    refine ⟨opOK_rx [(21, some 0)] (by kernel_rfl) rfl ?_, ?_⟩
    · intro act w' hw' h1
      have hk : ∀ v, act.eval (.const v) = v := fun _ => rfl
      have hf : ∀ f, act.eval (.func f) = .func (.func f) #[] #[] := fun _ => rfl
      generalize act.eval = ρ at *
      replace h1 : ρ (.tmp 21) = .agg #[.slice A k c] := h1
      refine gx_gen (fun K hK => ?_)
      obtain ⟨hc, hf'⟩ := bcell (bdrewn hw'.out)
      go_simp
      (refine (requests_v A c k R _ (trOK_of HT.out) HK.out (hv.keep (bdrewn hw'.out)) (hr.keep (bdrewn hw'.out))).mono ?_); rintro e w2 ⟨⟨z, rfl, hz⟩, hb1⟩; exact ⟨_, rfl, hK _ _ ⟨hz.mono (Nat.zero_le _), hb1⟩⟩
    refine ⟨opOK_rx [(9, none)] (by kernel_rfl) rfl ?_, ?_⟩
    · intro act w' hw' h1
      have hk : ∀ v, act.eval (.const v) = v := fun _ => rfl
      have hf : ∀ f, act.eval (.func f) = .func (.func f) #[] #[] := fun _ => rfl
      generalize act.eval = ρ at *
      replace h1 : ρ (.tmp 9) = .pointer (some ⟨w1.heap.size, 0, none⟩) := h1
      refine gx_gen (fun K hK => ?_)
      obtain ⟨hc, hf'⟩ := bcell (bdrewn hw'.out)
      go_simp
      exact hK _ _ ⟨rfl, Gr.refl _⟩
    refine ⟨opOK_rx [(23, some 2)] (by kernel_rfl) rfl ?_, ?_⟩
    · intro act w' hw' h1
      have hk : ∀ v, act.eval (.const v) = v := fun _ => rfl
      have hf : ∀ f, act.eval (.func f) = .func (.func f) #[] #[] := fun _ => rfl
      generalize act.eval = ρ at *
      replace h1 : ρ (.tmp 23) = .agg #[.slice A2 S.length c2] := h1
      refine gx_gen (fun K hK => ?_)
      obtain ⟨hc, hf'⟩ := bcell (bdrewn hw'.out)
      go_simp
      (refine (requests_v A2 c2 S.length S _ (by rw [HS2.out]; exact trOK_of HT2.out) rfl (hv2.keep (bdrewn hw'.out)) (hr2.keep (bdrewn hw'.out))).mono ?_); rintro e w2 ⟨⟨z, rfl, hz⟩, hb1⟩; exact ⟨_, rfl, hK _ _ ⟨hz.mono (Nat.zero_le _), hb1⟩⟩
    refine ⟨opOK_rx [(22, some 1), (24, some 3)] (by kernel_rfl) rfl ?_, ?_⟩
    · intro act w' hw' h1 h2
      have hk : ∀ v, act.eval (.const v) = v := fun _ => rfl
      have hf : ∀ f, act.eval (.func f) = .func (.func f) #[] #[] := fun _ => rfl
      generalize act.eval = ρ at *
      replace h1 : (fun v z => WsV 0 z R v) (ρ (.tmp 22)) w' := h1
      replace h2 : (fun v z => WsV 0 z S v) (ρ (.tmp 24)) w' := h2
      refine gx_gen (fun K hK => ?_)
      obtain ⟨hc, hf'⟩ := bcell (bdrewn hw'.out)
      go_simp
      obtain ⟨g1, e1, w1b⟩ := h1.b; obtain ⟨g2, e2, w2b⟩ := h2.b; rw [e1, e2, HSL.out]; rw [HSL.out, HS2.out] at w2b; (refine (changed_v R.length g1 g2 _ _ _ w1b w2b (by omega)).mono ?_); rintro e w2 ⟨⟨z, rfl, hz⟩, hb1⟩; exact ⟨_, rfl, hK _ _ ⟨by unfold tchM; rw [List.length_map]; exact hz.mono (Nat.le_trans hlo (bdrewn hw'.out).size), hb1⟩⟩
    refine ⟨opOK_rx [(25, some 4)] (by kernel_rfl) rfl ?_, ?_⟩
    · intro act w' hw' h1
      have hk : ∀ v, act.eval (.const v) = v := fun _ => rfl
      have hf : ∀ f, act.eval (.func f) = .func (.func f) #[] #[] := fun _ => rfl
      generalize act.eval = ρ at *
      replace h1 : (fun y z => GO w.heap.size z y (tchM (R.map Nr.n) j u v)) (ρ (.tmp 25)) w' := h1
      refine gx_gen (fun K hK => ?_)
      obtain ⟨hc, hf'⟩ := bcell (bdrewn hw'.out)
      go_simp
      exact hK _ _ ⟨h1, Gr.refl _⟩
    exact trivial
  case hfin =>
    intro w9 hg9
    intro v21 t21
    replace t21 : v21 = .agg #[.slice A k c] := t21
    subst t21
    intro v22 t22
    replace t22 : (fun v z => WsV 0 z R v) v22 w9 := t22
    intro v23 t23
    replace t23 : v23 = .agg #[.slice A2 S.length c2] := t23
    subst t23
    intro v24 t24
    replace t24 : (fun v z => WsV 0 z S v) v24 w9 := t24
    intro v25 t25
    replace t25 : (fun y z => GO w.heap.size z y (tchM (R.map Nr.n) j u v)) v25 w9 := t25
    intro v8 t8
    replace t8 : (fun y z => GO w.heap.size z y (tchM (R.map Nr.n) j u v)) v8 w9 := t8
    have hb9 := bdrewn hg9.out
    clear hg9
    simp only [finP, Act.put, List.setIfInBounds_toArray, List.set_cons_succ, List.set_cons_zero]
    clear t22 t24 x0 y0 lx ly hv hr hv2 hr2
    have HG := Lib.hid t8
    clear t8 t25
    replace HB := Lib.hid (bkeep2 HB.out hb9)
    clear hb9
    go_wp2
    go_ret
    exact ⟨⟨_, rfl, HG.out⟩, HB.out⟩
end Go.Proofs.YtgdkionmeacalabGreat
end
section
namespace Go.Proofs.YtgdkionmeacalabGreat
open Go Go.RowKit
set_option linter.unusedVariables false
set_option linter.unusedSimpArgs false
set_option maxHeartbeats 8000000
attribute [local go_sem] growUpon_value growUpon_skip growUpon_enter
/-- widths and heights, one after the other -/
def wsL (f : Nat → Int × Int) : Nat → List Int
  | 0 => []
  | n + 1 => wsL f n ++ [(f n).1, (f n).2]
theorem wsL_len (f : Nat → Int × Int) : ∀ n, (wsL f n).length = 2 * n
  | 0 => rfl
  | n + 1 => by
    have := wsL_len f n
    simp only [wsL, List.length_append, this, List.length_cons, List.length_nil]
    omega
theorem wsL_get {f : Nat → Int × Int} : ∀ {n k : Nat}, k < n → (wsL f n)[2 * k]? = some (f k).1 ∧ (wsL f n)[2 * k + 1]? = some (f k).2
  | n + 1, k, h => by
    have hl := wsL_len f n
    simp only [wsL]
    by_cases e : k = n
    · subst e
      rw [List.getElem?_append_right (by omega), List.getElem?_append_right (by omega), hl]
      simp
    · obtain ⟨h1, h2⟩ := wsL_get (f := f) (n := n) (k := k) (by omega)
      rw [List.getElem?_append_left (by omega), List.getElem?_append_left (by omega)]
      exact ⟨h1, h2⟩
theorem newW2 (W : World) (x y : Int) (T : TypeId) : ∀ (j : Nat) (u : Value), [Value.int .i64 x, Value.int .i64 y][j]? = some u → (W.alloc (.cells #[.int .i64 x, .int .i64 y] T)).cell? ((⟨W.heap.size, 0, none⟩ : Addr).add j) = some u := fun j u h => by
  rw [afAdd, Nat.zero_add]
  exact (cellS (newS W _) j).trans (by simpa using h)
set_option maxRecDepth 100000 in
theorem wantsOf_v (A : Option Addr) (c k : Nat) (R : List Nr) (w : World) (hT : TrOK (R.map Nr.n)) (hk : k = R.length) (h : NrV w A R) (hr : RdR w R) :
    Calls Tryz.prog 32 #[.agg #[.slice A k c]] w fun e w' => (∃ v, e = .returned v ∧ NR w' v (wsL (szM (R.map Nr.n)) R.length)) ∧ Below w.heap.size w w' := by
  obtain ⟨ti, tz, ti1, ti2, ti3, ti4, ti5⟩ := int_infoW
  have hL : R.length ≤ 10 := by have := hT.l10; rwa [List.length_map] at this
  have HSZ := Lib.hid (show ∀ m W, m < R.length → Below w.heap.size w W → Calls Tryz.prog 27 #[.agg #[.slice A k c], .int .i64 (m : Int)] W fun e w' => e = .returned (.tuple #[.int .i64 (szM (R.map Nr.n) m).1, .int .i64 (szM (R.map Nr.n) m).2]) ∧ Below W.heap.size W w' from fun m W hm hW => by
    rw [hk]
    exact sizeOf_v A c R hT R.length m W (by omega) hm (h.keep hW) (hr.keep hW))
  have HK := Lib.hid hk
  have hB0 : Below w.heap.size w ((w.alloc (.cells #[.slice A k c] 25 (0, 0))).alloc (.cells #[] 3 (0, 0))) := (balloc (Below.refl _ _)).trans ((balloc (Below.refl _ _)).mono (by simp))
  have hX0 : ((w.alloc (.cells #[.slice A k c] 25 (0, 0))).alloc (.cells #[] 3 (0, 0))).heap[w.heap.size]? = some (.cells #[.slice A k c] 25 (0, 0)) := (Below.heap_alloc _ _ _ (by simp)).trans (newS _ _)
  have hO0 : ((w.alloc (.cells #[.slice A k c] 25 (0, 0))).alloc (.cells #[] 3 (0, 0))).ownsRow (w.heap.size + 1) 3 1 (.slice (some ⟨w.heap.size + 1, 0, none⟩) 0 0) 0 (nvalsW []) := by
    have := World.ownsRow_lit (base := w.heap.size + 1) (e := 3) (size := 1) (w.alloc (.cells #[.slice A k c] 25 (0, 0))) #[] 0 (by simp) (by decide) rfl
    rwa [World.size_alloc] at this
  have HB0 := Lib.hid hB0
  have HX0 := Lib.hid hX0
  have HO0 := Lib.hid hO0
  clear h hr hk hB0 hX0 hO0
  go_enter Tryz.func32, Tryz.ntmps32
  go_wp2_with fail
  go_loopw [3, 4] (fun out i wr => ∃ m : Nat, m ≤ k ∧ i = .int .i64 (m : Int) ∧ wr.ownsRow (w.heap.size + 1) 3 1 out (2 * m) (nvalsW (wsL (szM (R.map Nr.n)) m)) ∧ wr.heap[w.heap.size]? = some (.cells #[.slice A k c] 25 (0, 0)) ∧ Below w.heap.size w wr) (fun _ i _ => k - (intOf i).toNat)
  case atStart => exact ⟨0, by omega, rfl, HO0.out, HX0.out, HB0.out⟩
  case round =>
    obtain ⟨m, hm, rfl, ho, hx, hB⟩ := hrel
    have HO := Lib.hid ho
    have HX := Lib.hid hx
    have HB := Lib.hid hB
    have x0 := cellS hx 0
    have lx := ltS hx
    clear ho hx hB HO0 HX0 HB0
    by_cases hlt : m < k
    · have hd : decide ((m : Int) < (k : Int)) = true := by simpa using hlt
      go_wp2_with fail
      with_reducible refine (HSZ.out m _ (by have := HK.out; omega) HB.out).mono ?_
      rintro e w2 ⟨rfl, hb⟩
      replace HO := Lib.hid (own_bw HO.out hb)
      replace HX := Lib.hid ((hb.block _ lx).trans HX.out)
      replace HB := Lib.hid (bkeep2 HB.out hb)
      have hob := HO.out.lt
      have hsz : w.heap.size + 1 ≤ w2.heap.size := ltS HX.out
      have hk10 : k ≤ 10 := by have := HK.out; omega
      clear hb x0 lx hd
      obtain ⟨q1, hq1⟩ : ∃ q1, (szM (R.map Nr.n) m).1 = q1 := ⟨_, rfl⟩
      obtain ⟨q2, hq2⟩ : ∃ q2, (szM (R.map Nr.n) m).2 = q2 := ⟨_, rfl⟩
      rw [hq1, hq2]
      have HQ1 := Lib.hid hq1
      have HQ2 := Lib.hid hq2
      clear hq1 hq2
      go_wp2_with (at_builtin; refine wpList_append_own _ rfl _ _ 42 rfl (w.heap.size + 1) 3 ti tz 1 8 Tryz.underlying42 ti1 ti2 ti3 ti4 ti5 (by decide) _ _ _ rfl (HO.out.alloc _) ⟨w2.heap.size, 0, none⟩ 2 2 [.int .i64 q1, .int .i64 q2] rfl rfl (newW2 _ _ _ _) (by simp [Value.oneCell']) (by simp only [maxLen]; omega) (by omega) (by simp; omega) ?_)
      intro v5 w5 how5 hgr5 _
      have hO5 : w5.ownsRow (w.heap.size + 1) 3 1 v5 (2 * (m + 1)) (nvalsW (wsL (szM (R.map Nr.n)) (m + 1))) := by
        have e : nvalsW (wsL (szM (R.map Nr.n)) m) ++ [.int .i64 q1, .int .i64 q2] = nvalsW (wsL (szM (R.map Nr.n)) (m + 1)) := by
          simp only [wsL, nvalsW, List.map_append, List.map_cons, List.map_nil, HQ1.out, HQ2.out]
        rw [e] at how5
        exact how5
      have hX5 := (hgr5.block w.heap.size (by simp; omega) (fun e => by have := hob _ e.symm; omega)).trans ((Below.heap_alloc _ _ w.heap.size (by omega)).trans HX.out)
      have HB5 := Lib.hid (below_own (n := w.heap.size) HB.out hgr5 (lo := w.heap.size + 1) (hi := w2.heap.size) (fun k hk => hob k hk) (by omega) (Nat.le_refl _))
      have HO5 := Lib.hid hO5
      have HX5 := Lib.hid hX5
      clear how5 hgr5 hob hO5 hX5 HB HO HX
      go_wp2
      go_roundw
      case rel => exact ⟨m + 1, by omega, by go_num, HO5.out, HX5.out, HB5.out⟩
      case measure => simp [intOf]; omega
    · have hd : decide ((m : Int) < (k : Int)) = false := decide_eq_false (by omega)
      obtain rfl : m = k := by omega
      have hfin : ∃ A' c', u3 = .slice A' (2 * m) c' ∧ NV wr A' (wsL (szM (R.map Nr.n)) m) := by
        rcases own_inW HO.out (wsL_len _ _).symm with ⟨rfl, hM⟩ | ⟨g, cap, rfl, hbg, hO⟩
        · have h0 : m = 0 := by have := wsL_len (szM (R.map Nr.n)) m; rw [hM] at this; simp at this; omega
          subst h0
          exact ⟨none, 0, rfl, NV.nil _ _⟩
        · exact ⟨_, cap, rfl, hO.nv⟩
      obtain ⟨A', c', rfl, hnv⟩ := hfin
      have HNV := Lib.hid hnv
      clear hnv HO
      go_wp2
      go_ret
      exact ⟨⟨.slice A' (2 * m) c', rfl, A', c', by rw [← HK.out, wsL_len], by rw [← HK.out]; exact HNV.out⟩, HB.out⟩
set_option maxRecDepth 100000 in
theorem sTouchedBy_no (A : Option Addr) (c k : Nat) (R : List Nr) (i u v : Int) (w : World) (hk : k = R.length) (h : NrV w A R) (hr : RdR w R) (hL : R.length ≤ 1048576) (hm : ∀ p ∈ R, p.n.cs.length ≤ 1048576 ∧ p.n.rs.length ≤ 1048576) (hb : askB (R.map Nr.n) k i u v = false) :
    Calls Tryz.prog 12 #[.agg #[.slice A k c], .int .i64 i, .int .i64 u, .int .i64 v] w fun e w' => e = .returned (.slice none 0 0) ∧ Below w.heap.size w w' := by
  have hkl : k ≤ 1048576 := by omega
  have hB0 : Below w.heap.size w (w.alloc (.cells #[.slice A k c] 25 (0, 0))) := balloc (Below.refl _ _)
  have HX := Lib.hid (newS w (.cells #[.slice A k c] 25 (0, 0)))
  have HB := Lib.hid hB0
  have HV := Lib.hid (h.keep hB0)
  have HR := Lib.hid (hr.keep hB0)
  have HM := Lib.hid hm
  have HK := Lib.hid hk
  have x0 := cellS HX.out 0
  clear hB0 h hr hm hk
  have HBB := Lib.hid hb
  clear hb
  go_enter Tryz.func12, Tryz.ntmps12
  go_wp2_with fail
  with_reducible refine (goodWish_v A c k R i u v false _ HK.out HV.out HR.out hL HM.out HBB.out).mono ?_
  rintro e w1 ⟨rfl, hb⟩
  clear x0
  replace HB := Lib.hid (bkeep2 HB.out hb)
  clear hb
  go_wp2
  go_ret
  exact ⟨rfl, HB.out⟩
set_option maxRecDepth 100000 in
theorem sTouchedBy_yes (A : Option Addr) (c k : Nat) (R : List Nr) (j : Nat) (u v : Int) (w : World) (hk : k = R.length) (h : NrV w A R) (hr : RdR w R) (hL : R.length ≤ 1048576) (hm : ∀ p ∈ R, p.n.cs.length ≤ 1048576 ∧ p.n.rs.length ≤ 1048576) (hj : j < R.length) (hb : askB (R.map Nr.n) k (j : Int) u v = true) :
    Calls Tryz.prog 12 #[.agg #[.slice A k c], .int .i64 j, .int .i64 u, .int .i64 v] w fun e w' => (∃ x, e = .returned x ∧ NR w' x (tchM (R.map Nr.n) j u v)) ∧ Below w.heap.size w w' := by
  obtain ⟨ti, tz, ti1, ti2, ti3, ti4, ti5⟩ := int_infoW
  obtain ⟨ht, -, hu, hv⟩ := askB_iff.1 hb
  have ht2 := askM_tree (j := j) ht hu hv
  have h10 := (tree_len ht).2
  rw [List.length_map] at h10
  have hkl : k ≤ 1048576 := by omega
  have hB0 : Below w.heap.size w (w.alloc (.cells #[.slice A k c] 25 (0, 0))) := balloc (Below.refl _ _)
  have HX := Lib.hid (newS w (.cells #[.slice A k c] 25 (0, 0)))
  have HB := Lib.hid hB0
  have HV := Lib.hid (h.keep hB0)
  have HR := Lib.hid (hr.keep hB0)
  have HM := Lib.hid hm
  have HK := Lib.hid hk
  have x0 := cellS HX.out 0
  clear hB0 h hr hm hk
  have HT := Lib.hid (trOK_of ht)
  have HT2 := Lib.hid (trOK_of ht2)
  have HBB := Lib.hid hb
  have hk10 : k ≤ 10 := by have := HK.out; omega
  clear hb ht ht2 hu hv
  go_enter Tryz.func12, Tryz.ntmps12
  go_wp2_with fail
  with_reducible refine (goodWish_v A c k R j u v true _ HK.out HV.out HR.out hL HM.out HBB.out).mono ?_
  rintro e w1 ⟨rfl, hb⟩
  clear x0
  replace HX := Lib.hid ((hb.block _ (Array.getElem?_eq_some_iff.1 HX.out).1).trans HX.out)
  replace HV := Lib.hid (HV.out.keep hb)
  replace HR := Lib.hid (HR.out.keep hb)
  replace HB := Lib.hid (bkeep2 HB.out hb)
  clear hb
  have x0 := cellS HX.out 0
  go_wp2_with fail
  with_reducible refine (wantsOf_v A c k R _ HT.out HK.out HV.out HR.out).mono ?_
  rintro e w2 ⟨⟨va, rfl, Aa, ca, rfl, hna⟩, hb⟩
  rw [wsL_len, ← HK.out]
  have HNA := Lib.hid hna
  clear x0 hna
  replace HX := Lib.hid ((hb.block _ (Array.getElem?_eq_some_iff.1 HX.out).1).trans HX.out)
  replace HV := Lib.hid (HV.out.keep hb)
  replace HR := Lib.hid (HR.out.keep hb)
  replace HB := Lib.hid (bkeep2 HB.out hb)
  clear hb
  have x0 := cellS HX.out 0
  go_wp2_with fail
  with_reducible refine (resized_v A c k R j u v _ HK.out HV.out HR.out hL HM.out hj).mono ?_
  rintro e w3 ⟨⟨x, rfl, hx⟩, hb⟩
  clear x0
  replace HX := Lib.hid ((hb.block _ (Array.getElem?_eq_some_iff.1 HX.out).1).trans HX.out)
  replace HV := Lib.hid (HV.out.keep hb)
  replace HR := Lib.hid (HR.out.keep hb)
  replace HNA := Lib.hid (HNA.out.keep hb)
  replace HB := Lib.hid (bkeep2 HB.out hb)
  clear hb
  obtain ⟨A2, c2, S, rfl, h1, h2, h3⟩ := hx.open
  have hsl : S.length = R.length := by have := congrArg List.length h3; rwa [List.length_map, askM_len, List.length_map] at this
  have HS2 := Lib.hid h3
  have HSL := Lib.hid hsl
  clear hx h3 hsl
  go_wp2_with fail
  with_reducible refine (wantsOf_v A2 c2 S.length S _ (by rw [HS2.out]; exact HT2.out) rfl h1 h2).mono ?_
  rintro e w4 ⟨⟨vb, rfl, Ab, cb, rfl, hnb⟩, hb⟩
  rw [wsL_len, HSL.out, ← HK.out]
  rw [HS2.out, HSL.out] at hnb
  have HNB := Lib.hid hnb
  clear h1 h2 hnb
  replace HX := Lib.hid ((hb.block _ (Array.getElem?_eq_some_iff.1 HX.out).1).trans HX.out)
  replace HNA := Lib.hid (HNA.out.keep hb)
  replace HB := Lib.hid (bkeep2 HB.out hb)
  clear hb
  obtain ⟨f1, hf1⟩ : ∃ f1, szM (R.map Nr.n) = f1 := ⟨_, rfl⟩
  obtain ⟨f2, hf2⟩ : ∃ f2, szM (askM (R.map Nr.n) j u v) = f2 := ⟨_, rfl⟩
  have HTM := Lib.hid (show tchM (R.map Nr.n) j u v = idsM (fun m => neW (f1 m) (f2 m)) k from by unfold tchM; rw [hf1, hf2, List.length_map, HK.out])
  rw [hf1] at HNA
  rw [hf2] at HNB
  rw [← HK.out] at HNA HNB
  clear hf1 hf2 HV HR HS2 HSL
  have HLA := Lib.hid (show ∀ ba oa, Aa = some ⟨ba, oa, none⟩ → 0 < k → ba < w4.heap.size from fun ba oa e h0 => by
    obtain ⟨b', o', e', l, _⟩ := HNA.out.cells (by rw [wsL_len]; omega)
    rw [e] at e'
    cases e'
    exact l)
  have HLB := Lib.hid (show ∀ ba oa, Ab = some ⟨ba, oa, none⟩ → 0 < k → ba < w4.heap.size from fun ba oa e h0 => by
    obtain ⟨b', o', e', l, _⟩ := HNB.out.cells (by rw [wsL_len]; omega)
    rw [e] at e'
    cases e'
    exact l)
  have hB0 : Below w4.heap.size w4 (w4.alloc (.cells #[] 3 (0, 0))) := balloc (Below.refl _ _)
  have HO0 := Lib.hid (World.ownsRow_lit (base := w4.heap.size) (e := 3) (size := 1) w4 #[] 0 (Nat.le_refl _) (by decide) rfl)
  have HX0 := Lib.hid ((hB0.block _ (ltS HX.out)).trans HX.out)
  have HNA0 := Lib.hid (HNA.out.keep hB0)
  have HNB0 := Lib.hid (HNB.out.keep hB0)
  have HB0 := Lib.hid (bkeep2 HB.out hB0)
  have hs4 := HB.out.size
  have hs4' : w.heap.size < w4.heap.size := ltS HX.out
  clear hB0 HX HNA HNB HB
  go_wp2_with fail
  go_loopw [11, 12] (fun out i wr => ∃ m : Nat, m ≤ k ∧ i = .int .i64 (m : Int) ∧ wr.ownsRow w4.heap.size 3 1 out (idsM (fun m => neW (f1 m) (f2 m)) m).length (nvalsW (idsM (fun m => neW (f1 m) (f2 m)) m)) ∧ wr.heap[w.heap.size]? = some (.cells #[.slice A k c] 25 (0, 0)) ∧ NV wr Aa (wsL f1 k) ∧ NV wr Ab (wsL f2 k) ∧ w4.heap.size < wr.heap.size ∧ Below w.heap.size w wr) (fun _ i _ => k - (intOf i).toNat)
  case atStart => exact ⟨0, by omega, rfl, HO0.out, HX0.out, HNA0.out, HNB0.out, by simp, HB0.out⟩
  case round =>
    obtain ⟨m, hm, rfl, ho, hx, ha, hb, hlw, hB⟩ := hrel
    have HO := Lib.hid ho
    have HX := Lib.hid hx
    have HA := Lib.hid ha
    have HNb := Lib.hid hb
    have HB := Lib.hid hB
    have x0 := cellS hx 0
    have lx := ltS hx
    clear ho hx ha hb hB HO0 HX0 HNA0 HNB0 HB0
    by_cases hlt : m < k
    · have hd : decide ((m : Int) < (k : Int)) = true := by simpa using hlt
      obtain ⟨ba, oa, rfl, lba, hca⟩ := HA.out.cells (by rw [wsL_len]; omega)
      obtain ⟨bb, ob, rfl, lbb, hcb⟩ := HNb.out.cells (by rw [wsL_len]; omega)
      obtain ⟨g1, g2⟩ := wsL_get (f := f1) hlt
      obtain ⟨g3, g4⟩ := wsL_get (f := f2) hlt
      have y1 := hca _ _ g1
      have y2 := hca _ _ g2
      have z1 := hcb _ _ g3
      have z2 := hcb _ _ g4
      obtain ⟨p1, hp1⟩ : ∃ p1, (f1 m).1 = p1 := ⟨_, rfl⟩
      obtain ⟨p2, hp2⟩ : ∃ p2, (f1 m).2 = p2 := ⟨_, rfl⟩
      obtain ⟨q1, hq1⟩ : ∃ q1, (f2 m).1 = q1 := ⟨_, rfl⟩
      obtain ⟨q2, hq2⟩ : ∃ q2, (f2 m).2 = q2 := ⟨_, rfl⟩
      have hne : neW (f1 m) (f2 m) = !(decide (p1 = q1) && decide (p2 = q2)) := by unfold neW; rw [hp1, hp2, hq1, hq2]
      rw [hp1] at y1
      rw [hp2] at y2
      rw [hq1] at z1
      rw [hq2] at z2
      have HNE := Lib.hid hne
      clear hca hcb g1 g2 g3 g4 hp1 hp2 hq1 hq2 hne
      have e1 : IntKind.i64.wrap (2 * (m : Int)) = 2 * (m : Int) := IntWalk.i64_in _ (by omega)
      have e2 : IntKind.i64.wrap (2 * (m : Int) + 1) = 2 * (m : Int) + 1 := IntWalk.i64_in _ (by omega)
      have e3 : (2 * (m : Int)).toNat = 2 * m := by omega
      have e4 : (2 * (m : Int) + 1).toNat = 2 * m + 1 := by omega
      have b1 : (0 : Int) ≤ 2 * (m : Int) := by omega
      have b2 : (0 : Int) ≤ 2 * (m : Int) + 1 := by omega
      have b3 : 2 * (m : Int) < ((2 * k : Nat) : Int) := by omega
      have b4 : 2 * (m : Int) + 1 < ((2 * k : Nat) : Int) := by omega
      have b5 : 2 * (m : Int) < 2 * (k : Int) := by omega
      have b6 : 2 * (m : Int) + 1 < 2 * (k : Int) := by omega
      have lba4 : ba < w4.heap.size := HLA.out ba oa rfl (by omega)
      have lbb4 : bb < w4.heap.size := HLB.out bb ob rfl (by omega)
      by_cases c1 : p1 = q1
      · have d1 : (p1 == q1) = true := by simp [c1]
        have n1 : (p1 != q1) = false := by simp [c1]
        by_cases c2 : p2 = q2
        · have d2 : (p2 == q2) = true := by simp [c2]
          have n2 : (p2 != q2) = false := by simp [c2]
          have HIDS := Lib.hid (idsM_no (f := fun m => neW (f1 m) (f2 m)) (k := m) (by show neW (f1 m) (f2 m) = false; rw [HNE.out]; simp [c1, c2]))
          clear c1 c2
          go_wp2_with fail
          refine wp_region_grow 26 0 (· < 26) (by kernel_rfl) (by kernel_rfl) rfl ?_
          iterate 26 (refine wpG_step (fun K hK => ?_); first | (refine grow_skip rfl ?_; go_simp; refine hK _ ?_; clear hK K) | (apply Exists.intro; refine ⟨.inl ⟨rfl, fun w' hw' => ?_⟩, ?_⟩; (focus ((obtain ⟨hc, hf⟩ := bcell hw'.out); (have hcS := bcellS hw'.out); go_simp <;> first | rfl | fail)); (go_simp; refine hK _ ?_; clear hK K)))
          refine wpG_nil ?_
          refine wpK_tail (by kernel_rfl) (fun w9 hg9 => ?_)
          have hb9 := bdrewn hg9.out
          refine wpAny_end (by kernel_rfl) ?_
          refine NoPan.thn ?_
          clear hg9
          have HO9 := Lib.hid (own_bw HO.out hb9)
          have HX9 := Lib.hid ((hb9.block _ lx).trans HX.out)
          have HA9 := Lib.hid (HA.out.keep hb9)
          have HB9 := Lib.hid (HNb.out.keep hb9)
          have HBB9 := Lib.hid (bkeep2 HB.out hb9)
          have hsz9 := hb9.size
          clear hb9 y1 y2 z1 z2 x0 d1 d2 n1 n2 e1 e2 e3 e4 b1 b2 b3 b4 b5 b6 HO HX HA HNb HB
          go_wp2
          go_roundw
          case rel => exact ⟨m + 1, by omega, by go_num, by rw [HIDS.out]; exact HO9.out, HX9.out, HA9.out, HB9.out, by omega, HBB9.out⟩
          case measure => simp [intOf]; omega
        · have d2 : (p2 == q2) = false := by simp [c2]
          have n2 : (p2 != q2) = true := by simp [c2]
          clear c1
          have HIDS := Lib.hid (idsM_yes (f := fun m => neW (f1 m) (f2 m)) (k := m) (by show neW (f1 m) (f2 m) = true; rw [HNE.out]; simp [c2]))
          clear c2
          go_wp2_with fail
          refine wp_region_grow 26 0 (· < 26) (by kernel_rfl) (by kernel_rfl) rfl ?_
          iterate 26 (refine wpG_step (fun K hK => ?_); first | (refine grow_skip rfl ?_; go_simp; refine hK _ ?_; clear hK K) | (apply Exists.intro; refine ⟨.inl ⟨rfl, fun w' hw' => ?_⟩, ?_⟩; (focus ((obtain ⟨hc, hf⟩ := bcell hw'.out); (have hcS := bcellS hw'.out); go_simp <;> first | rfl | fail)); (go_simp; refine hK _ ?_; clear hK K)))
          refine wpG_nil ?_
          refine wpK_tail (by kernel_rfl) (fun w9 hg9 => ?_)
          have hb9 := bdrewn hg9.out
          refine wpAny_end (by kernel_rfl) ?_
          refine NoPan.thn ?_
          clear hg9
          have HO9 := Lib.hid (own_bw HO.out hb9)
          have HX9 := Lib.hid ((hb9.block _ lx).trans HX.out)
          have HA9 := Lib.hid (HA.out.keep hb9)
          have HB9 := Lib.hid (HNb.out.keep hb9)
          have HBB9 := Lib.hid (bkeep2 HB.out hb9)
          have hsz9 := hb9.size
          have hob := HO9.out.lt
          have hlen := idsM_len (fun m => neW (f1 m) (f2 m)) m
          have lba9 : ba < w9.heap.size := by omega
          have lbb9 : bb < w9.heap.size := by omega
          clear hb9 y1 y2 z1 z2 x0 d1 d2 n1 n2 e1 e2 e3 e4 b1 b2 b3 b4 b5 b6 HO HX HA HNb HB
          go_wp2_with (at_builtin; refine wpList_append_own _ rfl _ _ 42 rfl w4.heap.size 3 ti tz 1 8 Tryz.underlying42 ti1 ti2 ti3 ti4 ti5 (by decide) _ _ _ rfl (HO9.out.alloc _) ⟨w9.heap.size, 0, none⟩ 1 1 [.int .i64 (m : Int)] rfl rfl (newW _ _ _) (by simp [Value.oneCell']) (by simp only [maxLen]; omega) (by omega) (by simp; omega) ?_)
          intro v5 w5 how5 hgr5 _
          rw [nvalsW_snoc, ← HIDS.out] at how5
          have hlen5 : (idsM (fun m => neW (f1 m) (f2 m)) m).length + 1 = (idsM (fun m => neW (f1 m) (f2 m)) (m + 1)).length := by rw [HIDS.out]; simp
          rw [hlen5] at how5
          have oth : ∀ b, b < w4.heap.size → w5.heap[b]? = w9.heap[b]? := fun b hbl => (hgr5.block b (by simp; omega) (fun e => by have := hob _ e.symm; omega)).trans (Below.heap_alloc _ _ b (by omega))
          have HO5 := Lib.hid how5
          have HX5 := Lib.hid ((oth w.heap.size (by omega)).trans HX9.out)
          have hs5 : w9.heap.size < w5.heap.size := by have := hgr5.size; simp at this; omega
          have HA5 := Lib.hid (show NV w5 (some ⟨ba, oa, none⟩) (wsL f1 k) from ⟨fun h0 => by
            obtain ⟨b', o', e, l1, hc⟩ := HA9.out.cells h0
            cases e
            exact ⟨_, _, rfl, by omega, fun i x hi => (World.cell?_of_block (a := ⟨ba, _, none⟩) (oth ba (by omega))).trans (hc i x hi)⟩⟩)
          have HB5 := Lib.hid (show NV w5 (some ⟨bb, ob, none⟩) (wsL f2 k) from ⟨fun h0 => by
            obtain ⟨b', o', e, l1, hc⟩ := HB9.out.cells h0
            cases e
            exact ⟨_, _, rfl, by omega, fun i x hi => (World.cell?_of_block (a := ⟨bb, _, none⟩) (oth bb (by omega))).trans (hc i x hi)⟩⟩)
          have HBB5 := Lib.hid (below_own (n := w.heap.size) HBB9.out hgr5 (lo := w4.heap.size) (hi := w9.heap.size) (fun k hk => hob k hk) (by omega) (Nat.le_refl _))
          clear how5 hgr5 hob hlen5 oth HO9 HX9 HA9 HB9 HBB9
          go_wp2
          go_roundw
          case rel => exact ⟨m + 1, by omega, by go_num, HO5.out, HX5.out, HA5.out, HB5.out, by omega, HBB5.out⟩
          case measure => simp [intOf]; omega
      · have d1 : (p1 == q1) = false := by simp [c1]
        have n1 : (p1 != q1) = true := by simp [c1]
        have HIDS := Lib.hid (idsM_yes (f := fun m => neW (f1 m) (f2 m)) (k := m) (by show neW (f1 m) (f2 m) = true; rw [HNE.out]; simp [c1]))
        clear c1
        go_wp2_with fail
        refine wp_region_grow 26 0 (· < 26) (by kernel_rfl) (by kernel_rfl) rfl ?_
        iterate 26 (refine wpG_step (fun K hK => ?_); first | (refine grow_skip rfl ?_; go_simp; refine hK _ ?_; clear hK K) | (apply Exists.intro; refine ⟨.inl ⟨rfl, fun w' hw' => ?_⟩, ?_⟩; (focus ((obtain ⟨hc, hf⟩ := bcell hw'.out); (have hcS := bcellS hw'.out); go_simp <;> first | rfl | fail)); (go_simp; refine hK _ ?_; clear hK K)))
        refine wpG_nil ?_
        refine wpK_tail (by kernel_rfl) (fun w9 hg9 => ?_)
        have hb9 := bdrewn hg9.out
        refine wpAny_end (by kernel_rfl) ?_
        refine NoPan.thn ?_
        clear hg9
        have HO9 := Lib.hid (own_bw HO.out hb9)
        have HX9 := Lib.hid ((hb9.block _ lx).trans HX.out)
        have HA9 := Lib.hid (HA.out.keep hb9)
        have HB9 := Lib.hid (HNb.out.keep hb9)
        have HBB9 := Lib.hid (bkeep2 HB.out hb9)
        have hsz9 := hb9.size
        have hob := HO9.out.lt
        have hlen := idsM_len (fun m => neW (f1 m) (f2 m)) m
        have lba9 : ba < w9.heap.size := by omega
        have lbb9 : bb < w9.heap.size := by omega
        clear hb9 y1 y2 z1 z2 x0 d1 n1 e1 e2 e3 e4 b1 b2 b3 b4 b5 b6 HO HX HA HNb HB
        go_wp2_with (at_builtin; refine wpList_append_own _ rfl _ _ 42 rfl w4.heap.size 3 ti tz 1 8 Tryz.underlying42 ti1 ti2 ti3 ti4 ti5 (by decide) _ _ _ rfl (HO9.out.alloc _) ⟨w9.heap.size, 0, none⟩ 1 1 [.int .i64 (m : Int)] rfl rfl (newW _ _ _) (by simp [Value.oneCell']) (by simp only [maxLen]; omega) (by omega) (by simp; omega) ?_)
        intro v5 w5 how5 hgr5 _
        rw [nvalsW_snoc, ← HIDS.out] at how5
        have hlen5 : (idsM (fun m => neW (f1 m) (f2 m)) m).length + 1 = (idsM (fun m => neW (f1 m) (f2 m)) (m + 1)).length := by rw [HIDS.out]; simp
        rw [hlen5] at how5
        have oth : ∀ b, b < w4.heap.size → w5.heap[b]? = w9.heap[b]? := fun b hbl => (hgr5.block b (by simp; omega) (fun e => by have := hob _ e.symm; omega)).trans (Below.heap_alloc _ _ b (by omega))
        have HO5 := Lib.hid how5
        have HX5 := Lib.hid ((oth w.heap.size (by omega)).trans HX9.out)
        have hs5 : w9.heap.size < w5.heap.size := by have := hgr5.size; simp at this; omega
        have HA5 := Lib.hid (show NV w5 (some ⟨ba, oa, none⟩) (wsL f1 k) from ⟨fun h0 => by
          obtain ⟨b', o', e, l1, hc⟩ := HA9.out.cells h0
          cases e
          exact ⟨_, _, rfl, by omega, fun i x hi => (World.cell?_of_block (a := ⟨ba, _, none⟩) (oth ba (by omega))).trans (hc i x hi)⟩⟩)
        have HB5 := Lib.hid (show NV w5 (some ⟨bb, ob, none⟩) (wsL f2 k) from ⟨fun h0 => by
          obtain ⟨b', o', e, l1, hc⟩ := HB9.out.cells h0
          cases e
          exact ⟨_, _, rfl, by omega, fun i x hi => (World.cell?_of_block (a := ⟨bb, _, none⟩) (oth bb (by omega))).trans (hc i x hi)⟩⟩)
        have HBB5 := Lib.hid (below_own (n := w.heap.size) HBB9.out hgr5 (lo := w4.heap.size) (hi := w9.heap.size) (fun k hk => hob k hk) (by omega) (Nat.le_refl _))
        clear how5 hgr5 hob hlen5 oth HO9 HX9 HA9 HB9 HBB9
        go_wp2
        go_roundw
        case rel => exact ⟨m + 1, by omega, by go_num, HO5.out, HX5.out, HA5.out, HB5.out, by omega, HBB5.out⟩
        case measure => simp [intOf]; omega
    · have hd : decide ((m : Int) < (k : Int)) = false := decide_eq_false (by omega)
      obtain rfl : m = k := by omega
      have hfin : ∃ A' c', u11 = .slice A' (idsM (fun m => neW (f1 m) (f2 m)) m).length c' ∧ NV wr A' (idsM (fun m => neW (f1 m) (f2 m)) m) := by
        rcases own_inW HO.out rfl with ⟨rfl, hM⟩ | ⟨g, cap, rfl, hbg, hO⟩
        · exact ⟨none, 0, by rw [hM]; rfl, by rw [hM]; exact NV.nil _ _⟩
        · exact ⟨_, cap, rfl, hO.nv⟩
      obtain ⟨A', c', rfl, hnv⟩ := hfin
      have HNV := Lib.hid hnv
      clear hnv HO
      go_wp2
      go_ret
      exact ⟨⟨_, rfl, by rw [HTM.out]; exact ⟨A', c', rfl, HNV.out⟩⟩, HB.out⟩
end Go.Proofs.YtgdkionmeacalabGreat
end
section
namespace Go.Proofs.YtgdkionmeacalabGreat
open Go.RowKit
set_option linter.unusedVariables false
set_option maxHeartbeats 1000000
attribute [local go_sem] growUpon_value growUpon_skip growUpon_enter
set_option maxRecDepth 100000 in
theorem equalInts_z (v v' : Value) (L : List Int) (w : World) (h : NR w v L) (h' : NR w v' L) (hL : L.length ≤ 1048576) :
    Calls Tryz.prog 11 #[v, v'] w fun e w' => e = .returned (.bool true) ∧ Below w.heap.size w w' := by
  obtain ⟨A, c, rfl, h⟩ := h
  obtain ⟨B, c', rfl, h'⟩ := h'
  go_enter Tryz.func11, Tryz.ntmps11
  go_wp2_with fail
  go_loopw [5] (fun i wr => ∃ k : Nat, k ≤ L.length ∧ i = .int .i64 k ∧ Below w.heap.size w wr) (fun i _ => L.length - (intOf i).toNat)
  case atStart => exact ⟨0, by omega, rfl, Below.refl _ _⟩
  case round =>
    obtain ⟨k, hk, rfl, hB⟩ := hrel
    by_cases hlt : k < L.length
    · have hd : decide ((k : Int) < (L.length : Int)) = true := by simpa using hlt
      obtain ⟨b, off, rfl, hb, hp⟩ := (h.keep hB).cells (by omega)
      obtain ⟨b', off', rfl, hb', hp'⟩ := (h'.keep hB).cells (by omega)
      have hget : L[k]? = some L[k] := List.getElem?_eq_getElem hlt
      have c0 := hp k _ hget
      have d0 := hp' k _ hget
      generalize hx : L[k] = x at *
      have HB := Lib.hid hB
      clear hget hx hp hp' hB
      go_wp2_with fail
      refine wp_region_grow 9 0 (· < 9) (by kernel_rfl) (by kernel_rfl) rfl ?_
      iterate 9 (refine wpG_step (fun K hK => ?_); first | (refine grow_skip rfl ?_; go_simp; refine hK _ ?_; clear hK K) | (apply Exists.intro; refine ⟨.inl ⟨rfl, fun w' hw' => ?_⟩, ?_⟩; (focus ((obtain ⟨hc, hf⟩ := bcell hw'.out); (have hcS := bcellS hw'.out); go_simp <;> first | rfl | (fail))); (go_simp; refine hK _ ?_; clear hK K)))
      refine wpG_nil ?_
      refine wpK_tail (by kernel_rfl) (fun w1 hg1 => ?_)
      have hb1 := bdrewn hg1.out
      refine wpAny_end (by kernel_rfl) ?_
      refine NoPan.thn ?_
      clear hg1
      replace HB := Lib.hid (HB.out.trans (hb1.mono HB.out.size))
      clear hb1 c0 d0
      go_wp2
      go_roundw
      case rel => exact ⟨k + 1, by omega, by go_num, HB.out⟩
      case measure => simp [intOf]; omega
    · have hd : decide ((k : Int) < (L.length : Int)) = false := by simp; omega
      have HB := Lib.hid hB
      clear hB
      go_wp2
      go_ret
      exact ⟨rfl, HB.out⟩
def sbL (n : Int) (L : List Int) : List Int := if sbB n L then spreadM n L else []
end Go.Proofs.YtgdkionmeacalabGreat
end
