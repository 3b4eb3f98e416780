import Derived.Test.YtjdjahckdgbkbaaQ02
section
namespace Go.Proofs.Ytjdjahckdgbkbaa
open Go.RowKit
set_option linter.unusedVariables false
set_option maxHeartbeats 4000000
attribute [local go_sem 5000] run_mx run_mn
attribute [local go_sem] Oper.semAt_some
set_option maxRecDepth 100000 in
theorem backward_in (F : Fence) (n : Nat) (hF : F.fn 55) (hro : F.round = none) (a : Option Addr) (len cap : Nat) (w : World) :
    CallsIn F n Try.prog 55 #[.slice a len cap] w fun e w' => e = .returned (.func (.func 64) #[] #[.pointer (some ⟨w.heap.size, 0, none⟩)]) ∧ w' = w.alloc (.cells #[.slice a len cap] 32) := by
  refine callsIn_of_wp Try.func55 rfl hF ?_ hro
  simp only [Try.ntmps55, List.size_toArray, List.length_cons, List.length_nil, Nat.reduceAdd, Nat.reduceSub, Array.replicate_succ, Array.replicate_zero, List.push_toArray, List.append_toArray, List.nil_append, List.cons_append]
  gi_wp2
  go_ret
  exact ⟨rfl, rfl⟩
theorem bk_stops (F : Fence) (n : Nat) (hF : F.fn 64) (hro : F.round = none) (hn : 1 ≤ n) (Bs n0 : Nat) (A : Option Addr) (c : Nat) (L : List Pk) (hL : L.length ≤ 10) (hok : ∀ p ∈ L, p.big) (w : World) (hBs : Bs < w.heap.size) (hn0 : n0 ≤ w.heap.size)
    (hc : w.cell? ⟨Bs, 0, none⟩ = some (.slice A L.length c)) (hp : PVn n0 w A L) :
    SeqStopsK F n Try.prog 64 #[.pointer (some ⟨Bs, 0, none⟩)] encB (KpB n0 Bs) (fun ys => ys.map BkE.p = L.reverse) (fun _ => True) L.length w := fun l J Jx W hW _ _ hY h0 =>
  bk1_in F n hF hro hn l Bs n0 A c L hL hok J Jx hY W ((hW.cell (p := ⟨Bs, 0, none⟩) hBs).trans hc) (hp.below (hW.mono hn0)) h0
/-- what the items that have come need -/
def accB (d : Bool) : List BkE → Int
  | [] => 0
  | x :: t => if x.p.down = d then accB d t + x.p.need d else mx (accB d t) (x.p.need d)
theorem accB_bd (d : Bool) : ∀ ys : List BkE, 0 ≤ accB d ys ∧ accB d ys ≤ 1000000000020 * ys.length
  | [] => by simp [accB]
  | x :: t => by
    have := accB_bd d t
    have nb := Pk.need_bdW x.ok d
    have m := mx_spec (accB d t) (x.p.need d)
    simp only [accB, List.length_cons]
    split <;> omega
def acc (d : Bool) (ys : List BkE) : Int := accB d ys.reverse
theorem acc_bd (d : Bool) (ys : List BkE) : 0 ≤ acc d ys ∧ acc d ys ≤ 1000000000020 * ys.length := by have := accB_bd d ys.reverse; rwa [List.length_reverse] at this
theorem acc_same {d : Bool} {ys : List BkE} {x : BkE} (h : x.p.down = d) : acc d (ys ++ [x]) = acc d ys + x.p.need d := by
  simp [acc, accB, h]
theorem acc_other {d : Bool} {ys : List BkE} {x : BkE} (h : ¬ x.p.down = d) : acc d (ys ++ [x]) = mx (acc d ys) (x.p.need d) := by
  simp only [acc, List.reverse_append, List.reverse_cons, List.reverse_nil, List.nil_append, List.cons_append, accB, if_neg h]
theorem accB_req {d : Bool} : ∀ {ys : List BkE} {L : List Pk}, ys.map BkE.p = L → accB d ys = reqD L d
  | [], L, h => by
    simp at h; subst h
    rw [reqD_nil]; rfl
  | x :: t, L, h => by
    simp at h
    subst h
    have ih := accB_req (d := d) (ys := t) rfl
    by_cases hd : x.p.down = d
    · rw [reqD_same hd, ← ih, accB, if_pos hd]
    · rw [reqD_other hd, ← ih, accB, if_neg hd]
theorem acc_req {d : Bool} {ys : List BkE} {L : List Pk} (h : ys.map BkE.p = L.reverse) : acc d ys = reqD L d := by
  refine accB_req ?_
  rw [List.map_reverse, h, List.reverse_reverse]
theorem isDown_b (p : Pk) (b : Bool) (h : p.down = b) (w : World) : Calls Try.prog 43 #[.agg #[.int .i64 p.w, .int .i64 p.h, .int .i64 p.s, .bool p.fx, .bool p.fy, .bool p.ex, .int .i64 p.an, .int .i64 p.px, .int .i64 p.py]] w fun e w' => e = .returned (.bool b) ∧ Below w.heap.size w w' := by rw [← h]; exact isDown_v p w
theorem bdr {W w' : World} (h : Below W.drew.heap.size W.drew w') : Below W.heap.size W w' := (Below.refl _ _).drew.trans h
theorem keepsFrom_below {B : Nat} {W W' : World} (h : Below W.heap.size W W') : KeepsFrom B W W' := ⟨h.size, fun k o _ hk _ => (h.block k (Array.getElem?_eq_some_iff.1 hk).1).trans hk⟩
theorem kpB_below {n0 Bs : Nat} {W W' : World} (h : Below W.heap.size W W') (h0 : n0 ≤ W.heap.size) (hs : Bs < W.heap.size) : KpB n0 Bs W W' := ⟨h.mono h0, h.block Bs hs⟩
theorem round_end {w W w2 : World} {B0 : Nat} {A : Option Addr} {c : Nat} {L : List Pk} {d : Bool} {pre : List BkE} {x : BkE} {v u : Int} {T1 T2 T3 : TypeId} (b2 : Below W.heap.size W w2) (bS : Boxed W (w.heap.size + 1) T1 (.int .i64 u)) (bD : Boxed W w.heap.size T2 (.bool d)) (bL : Boxed W (w.heap.size + 1 + 1) T3 (.slice A L.length c)) (hB : Below w.heap.size w W) (hl : w.heap.size ≤ W.heap.size) (hv : acc d (pre ++ [x]) = v) :
    KeepsFrom B0 W (w2.setCell ⟨w.heap.size + 1, 0, none⟩ (.int .i64 v)) ∧ KpB w.heap.size (w.heap.size + 1 + 1) W (w2.setCell ⟨w.heap.size + 1, 0, none⟩ (.int .i64 v)) ∧
      ((Boxed (w2.setCell ⟨w.heap.size + 1, 0, none⟩ (.int .i64 v)) (w.heap.size + 1) T1 (.int .i64 (acc d (pre ++ [x]))) ∧ (Boxed (w2.setCell ⟨w.heap.size + 1, 0, none⟩ (.int .i64 v)) w.heap.size T2 (.bool d) ∧ Boxed (w2.setCell ⟨w.heap.size + 1, 0, none⟩ (.int .i64 v)) (w.heap.size + 1 + 1) T3 (.slice A L.length c))) ∧
        Below w.heap.size w (w2.setCell ⟨w.heap.size + 1, 0, none⟩ (.int .i64 v))) := by
  have cS : Boxed w2 (w.heap.size + 1) T1 (.int .i64 u) := (b2.block _ bS.lt).trans bS
  have cD : Boxed w2 w.heap.size T2 (.bool d) := (b2.block _ bD.lt).trans bD
  have cL : Boxed w2 (w.heap.size + 1 + 1) T3 (.slice A L.length c) := (b2.block _ bL.lt).trans bL
  refine ⟨(keepsFrom_below b2).trans ((KeepsOthers.setCell _ _ _).from _), (kpB_below b2 hl bL.lt).trans ⟨(Below.refl _ _).setCell (p := ⟨w.heap.size + 1, 0, none⟩) (by simp) _, Below.heap_setCell _ ⟨w.heap.size + 1, 0, none⟩ _ _ (by simp)⟩, ⟨⟨by rw [hv]; exact cS.set _, cD.other (by omega) _, cL.other (by omega) _⟩, (hB.trans (b2.mono hl)).setCell (p := ⟨w.heap.size + 1, 0, none⟩) (by simp) _⟩⟩
set_option maxRecDepth 100000 in
theorem packRequest_w (A : Option Addr) (c : Nat) (L : List Pk) (d : Bool) (w : World) (h : PV w A L) (hok : ∀ p ∈ L, p.big) (h7 : L.length ≤ 10) :
    Calls Try.prog 38 #[.slice A L.length c, .bool d] w fun e W' => e = .returned (.int .i64 (reqD L d)) ∧ Below w.heap.size w W' := by
  have HOK := Lib.hid hok
  clear hok
  refine (callsIn_wide (n := 6)).1 ?_
  refine callsIn_of_wp_marks Try.func38 rfl trivial ?_ rfl
  simp only [Try.ntmps38, List.size_toArray, List.length_cons, List.length_nil, Nat.reduceAdd, Nat.reduceSub, Array.replicate_succ, Array.replicate_zero, List.push_toArray, List.append_toArray, List.nil_append, List.cons_append]
  gi_wp2_with (refine ⟨trivial, ?_⟩; gi_at_call 55; refine (backward_in Fence.wide _ trivial rfl _ _ _ _).mono ?_; rintro e w' ⟨rfl, rfl⟩)
  have bL := Boxed.new ((w.alloc (.cells #[.bool d] 4)).alloc (.cells #[.int .i64 0] 3)) 32 (.slice A L.length c)
  have bS := (Boxed.new (w.alloc (.cells #[.bool d] 4)) 3 (.int .i64 0)).alloc (.cells #[.slice A L.length c] 32)
  have bD := ((Boxed.new w 4 (.bool d)).alloc (.cells #[.int .i64 0] 3)).alloc (.cells #[.slice A L.length c] 32)
  simp only [World.size_alloc] at bL bS bD
  have hB0 : Below w.heap.size w (((w.alloc (.cells #[.bool d] 4)).alloc (.cells #[.int .i64 0] 3)).alloc (.cells #[.slice A L.length c] 32)) := (((Below.refl _ w).alloc (Nat.le_refl _) _).alloc (by simp) _).alloc (by simp; omega) _
  have hsz : (((w.alloc (.cells #[.bool d] 4)).alloc (.cells #[.int .i64 0] 3)).alloc (.cells #[.slice A L.length c] 32)).heap.size = w.heap.size + 3 := by simp
  obtain ⟨W0, hW0⟩ : ∃ W0, ((w.alloc (.cells #[.bool d] 4)).alloc (.cells #[.int .i64 0] 3)).alloc (.cells #[.slice A L.length c] 32) = W0 := ⟨_, rfl⟩
  rw [hW0] at bL bS bD hB0 hsz ⊢
  clear hW0
  have hp0 : PVn w.heap.size W0 A L := PVn.below (fun h0 => let ⟨b, off, e, hl, hp⟩ := h.cells h0; ⟨b, off, e, hl, hp⟩) hB0
  refine wpIn_rangeFunc_ownH rfl (by omega) (gf := 64) (lb := #[.pointer (some ⟨w.heap.size + 1 + 1, 0, none⟩)]) rfl trivial (enters_of Try.func64 (by kernel_rfl) rfl)
    (bk_stops Fence.wide _ trivial rfl (by omega) (w.heap.size + 1 + 1) w.heap.size A c L h7 HOK.out W0 (by omega) (by omega) bL.cell hp0) KpB.trans
    (fun W l o o' hl ho hc hw => ⟨belowK_b (w := W0) (by omega) W l o o' hl ho hc hw, World.putObj_heap_other (by omega)⟩) (Below.refl _ _) (fun _ => rfl)
    (fun pre W => (Boxed W (w.heap.size + 1) 3 (.int .i64 (acc d pre)) ∧ (Boxed W w.heap.size 4 (.bool d) ∧ Boxed W (w.heap.size + 1 + 1) 32 (.slice A L.length c))) ∧ Below w.heap.size w W)
    (fun _ _ _ => False)
    (OwnFrom.and (OwnFrom.and (Own.from (boxed_own _ _ _) _) (OwnFrom.and (Own.from (boxed_own _ _ _) _) (Own.from (boxed_own _ _ _) _))) (ownFrom_below (Nat.le_refl _) (by omega)))
    (fun _ _ _ _ _ hs _ _ => hs)
    ⟨⟨bS, bD, bL⟩, hB0⟩
    (fun x a' W => ∃ Bx, w.heap.size + 2 < Bx ∧ W.heap[Bx]? = some (.cells #[.int .i64 x.p.w, .int .i64 x.p.h, .int .i64 x.p.s, .bool x.p.fx, .bool x.p.fy, .bool x.p.ex, .int .i64 x.p.an, .int .i64 x.p.px, .int .i64 x.p.py] 25 (0, 0)) ∧ a' = { tmps := #[.slice A L.length c, .bool d, undef, .pointer (some ⟨w.heap.size, 0, none⟩), .int .i64 0, .pointer (some ⟨w.heap.size + 1, 0, none⟩), undef, .pointer (some ⟨Bx, 0, none⟩), .slice A L.length c, .func (.func 64) #[] #[.pointer (some ⟨w.heap.size + 1 + 1, 0, none⟩)], .int .i64 x.i, .agg #[.int .i64 x.p.w, .int .i64 x.p.h, .int .i64 x.p.s, .bool x.p.fx, .bool x.p.fy, .bool x.p.ex, .int .i64 x.p.an, .int .i64 x.p.px, .int .i64 x.p.py], undef, undef, undef, undef, undef, undef, undef, undef, undef, undef, undef, undef, undef, undef, undef], defers := [] })
    (fun x a' _ X Y row hs hg hr => by
      obtain ⟨Bx, h1, h2, h3⟩ := hs
      exact ⟨Bx, h1, (hg.block Bx (Array.getElem?_eq_some_iff.1 h2).1 (fun e => by
        obtain ⟨_, o, ho, hoc⟩ := hr Bx e.symm
        rw [h2] at ho
        obtain rfl := Option.some.inj ho
        simp [Obj.isCells] at hoc)).trans h2, h3⟩)
    ?assign ?body ?done ?stop
  case assign =>
    rintro l pre x W K ⟨⟨bS1, bD1, bL1⟩, hB1⟩ hK
    have hlt2 := bL1.lt
    simp only [encB]
    gi_wp2
    refine hK _ _ ((KeepsOthers.alloc _ _).from _) ⟨(Below.refl _ W).alloc hB1.size _, Below.heap_alloc _ _ _ (by omega)⟩ ⟨⟨bS1.alloc _, bD1.alloc _, bL1.alloc _⟩, hB1.alloc hB1.size _⟩ ⟨W.heap.size, by omega, heap_new _ _, rfl⟩
  case body =>
    rintro l pre x a' W hl ⟨r, hr⟩ ⟨⟨bS1, bD1, bL1⟩, hB1⟩ ⟨Bx, hBx, hX, rfl⟩ hlt
    have cS := bS1.cell
    have fS := bS1.frozen
    have cD := bD1.cell
    have sS := bS1.lt
    have sD := bD1.lt
    have sL := bL1.lt
    have sX : Bx < W.heap.size := (Array.getElem?_eq_some_iff.1 hX).1
    obtain ⟨a1, a2⟩ := acc_bd d pre
    have nb := Pk.need_bdW x.ok d
    obtain ⟨c0, c1, c2, c3, c4, c5, c6, c7, c8⟩ := b9c hX
    have hmx : Try.prog.follows .mixedOrders = true := by kernel_rfl
    have hn1 : 1 ≤ 6 - 1 - 1 := by omega
    have hl0 : w.heap.size ≤ W.heap.size := hB1.size
    cases d <;> cases hdn : x.p.down
    · have hacc := acc_same (ys := pre) (x := x) (d := false) hdn
      have HA := Lib.hid hacc
      clear hacc
      gi_wp2
      gi_region_with_o (refine ⟨trivial, ?_⟩; gi_at_call 43; refine (CallsIn.inRound l (callsIn_wide.2 (isDown_b x.p false hdn _))).mono ?_; rintro e w1 ⟨rfl, hb1⟩; have b1 := bdr hb1; have kD := (b1.cell (p := ⟨w.heap.size, 0, none⟩) sD).trans cD; have kS := (b1.cell (p := ⟨w.heap.size + 1, 0, none⟩) sS).trans cS; have kX := (b1.block Bx sX).trans hX; obtain ⟨k0, k1, k2, k3, k4, k5, k6, k7, k8⟩ := b9c kX; have z1 := b1.size; have tS := Nat.lt_of_lt_of_le sS z1; have tD := Nat.lt_of_lt_of_le sD z1)
      all_goals
        gi_wp2
        gi_region_with_o (refine ⟨trivial, ?_⟩; gi_at_call 56; refine (CallsIn.inRound l (callsIn_wide.2 (need_w x.p false _ x.ok))).mono ?_; rintro e w2 ⟨rfl, hb2⟩; have b2 := b1.trans ((bdr hb2).mono z1); have jD := (b2.cell (p := ⟨w.heap.size, 0, none⟩) sD).trans cD; have jS := (b2.cell (p := ⟨w.heap.size + 1, 0, none⟩) sS).trans cS; have fS2 := (b2.frozen (p := ⟨w.heap.size + 1, 0, none⟩) sS).trans fS; clear kS kD k0 k1 k2 k3 k4 k5 k6 k7 k8)
        all_goals
          gi_wp2
          all_goals (try go_bits)
          all_goals exact round_end b2 bS1 bD1 bL1 hB1 hl0 HA.out
    · have hacc := acc_other (ys := pre) (x := x) (d := false) (by simp [hdn])
      have HA := Lib.hid hacc
      clear hacc
      gi_wp2
      gi_region_with_o (refine ⟨trivial, ?_⟩; gi_at_call 43; refine (CallsIn.inRound l (callsIn_wide.2 (isDown_b x.p true hdn _))).mono ?_; rintro e w1 ⟨rfl, hb1⟩; have b1 := bdr hb1; have kD := (b1.cell (p := ⟨w.heap.size, 0, none⟩) sD).trans cD; have kS := (b1.cell (p := ⟨w.heap.size + 1, 0, none⟩) sS).trans cS; have kX := (b1.block Bx sX).trans hX; obtain ⟨k0, k1, k2, k3, k4, k5, k6, k7, k8⟩ := b9c kX; have z1 := b1.size; have tS := Nat.lt_of_lt_of_le sS z1; have tD := Nat.lt_of_lt_of_le sD z1)
      all_goals
        gi_wp2
        gi_region_with_o (refine ⟨trivial, ?_⟩; gi_at_call 56; refine (CallsIn.inRound l (callsIn_wide.2 (need_w x.p false _ x.ok))).mono ?_; rintro e w2 ⟨rfl, hb2⟩; have b2 := b1.trans ((bdr hb2).mono z1); have jD := (b2.cell (p := ⟨w.heap.size, 0, none⟩) sD).trans cD; have jS := (b2.cell (p := ⟨w.heap.size + 1, 0, none⟩) sS).trans cS; have fS2 := (b2.frozen (p := ⟨w.heap.size + 1, 0, none⟩) sS).trans fS; clear kS kD k0 k1 k2 k3 k4 k5 k6 k7 k8)
        all_goals
          gi_wp2
          all_goals (try go_bits)
          all_goals exact round_end b2 bS1 bD1 bL1 hB1 hl0 HA.out
    · have hacc := acc_other (ys := pre) (x := x) (d := true) (by simp [hdn])
      have HA := Lib.hid hacc
      clear hacc
      gi_wp2
      gi_region_with_o (refine ⟨trivial, ?_⟩; gi_at_call 43; refine (CallsIn.inRound l (callsIn_wide.2 (isDown_b x.p false hdn _))).mono ?_; rintro e w1 ⟨rfl, hb1⟩; have b1 := bdr hb1; have kD := (b1.cell (p := ⟨w.heap.size, 0, none⟩) sD).trans cD; have kS := (b1.cell (p := ⟨w.heap.size + 1, 0, none⟩) sS).trans cS; have kX := (b1.block Bx sX).trans hX; obtain ⟨k0, k1, k2, k3, k4, k5, k6, k7, k8⟩ := b9c kX; have z1 := b1.size; have tS := Nat.lt_of_lt_of_le sS z1; have tD := Nat.lt_of_lt_of_le sD z1)
      all_goals
        gi_wp2
        gi_region_with_o (refine ⟨trivial, ?_⟩; gi_at_call 56; refine (CallsIn.inRound l (callsIn_wide.2 (need_w x.p true _ x.ok))).mono ?_; rintro e w2 ⟨rfl, hb2⟩; have b2 := b1.trans ((bdr hb2).mono z1); have jD := (b2.cell (p := ⟨w.heap.size, 0, none⟩) sD).trans cD; have jS := (b2.cell (p := ⟨w.heap.size + 1, 0, none⟩) sS).trans cS; have fS2 := (b2.frozen (p := ⟨w.heap.size + 1, 0, none⟩) sS).trans fS; clear kS kD k0 k1 k2 k3 k4 k5 k6 k7 k8)
        all_goals
          gi_wp2
          all_goals (try go_bits)
          all_goals exact round_end b2 bS1 bD1 bL1 hB1 hl0 HA.out
    · have hacc := acc_same (ys := pre) (x := x) (d := true) hdn
      have HA := Lib.hid hacc
      clear hacc
      gi_wp2
      gi_region_with_o (refine ⟨trivial, ?_⟩; gi_at_call 43; refine (CallsIn.inRound l (callsIn_wide.2 (isDown_b x.p true hdn _))).mono ?_; rintro e w1 ⟨rfl, hb1⟩; have b1 := bdr hb1; have kD := (b1.cell (p := ⟨w.heap.size, 0, none⟩) sD).trans cD; have kS := (b1.cell (p := ⟨w.heap.size + 1, 0, none⟩) sS).trans cS; have kX := (b1.block Bx sX).trans hX; obtain ⟨k0, k1, k2, k3, k4, k5, k6, k7, k8⟩ := b9c kX; have z1 := b1.size; have tS := Nat.lt_of_lt_of_le sS z1; have tD := Nat.lt_of_lt_of_le sD z1)
      all_goals
        gi_wp2
        gi_region_with_o (refine ⟨trivial, ?_⟩; gi_at_call 56; refine (CallsIn.inRound l (callsIn_wide.2 (need_w x.p true _ x.ok))).mono ?_; rintro e w2 ⟨rfl, hb2⟩; have b2 := b1.trans ((bdr hb2).mono z1); have jD := (b2.cell (p := ⟨w.heap.size, 0, none⟩) sD).trans cD; have jS := (b2.cell (p := ⟨w.heap.size + 1, 0, none⟩) sS).trans cS; have fS2 := (b2.frozen (p := ⟨w.heap.size + 1, 0, none⟩) sS).trans fS; clear kS kD k0 k1 k2 k3 k4 k5 k6 k7 k8)
        all_goals
          gi_wp2
          all_goals (try go_bits)
          all_goals exact round_end b2 bS1 bD1 bL1 hB1 hl0 HA.out
  case done =>
    rintro D ys W hD hys ⟨⟨bS1, bD1, bL1⟩, hB1⟩ hK
    have cS := bS1.cell
    rw [acc_req hys] at cS
    gi_wp2
    refine ⟨by simp, .inl ⟨_, _, rfl, run_takeDeferred hK, ?_⟩⟩
    exact ⟨_, results_tmp rfl _ _ _, rfl, hB1.trans (belowK_b (w := w) (Nat.le_refl _) W D _ _ (by omega) hK rfl rfl)⟩
  case stop =>
    rintro D c pre W _ _ h _
    exact h.elim
theorem packRequest_v (A : Option Addr) (c : Nat) (L : List Pk) (d : Bool) (w : World) (h : PV w A L) (hL : vpsB L = true) :
    Calls Try.prog 38 #[.slice A L.length c, .bool d] w fun e W' => e = .returned (.int .i64 (reqD L d)) ∧ Below w.heap.size w W' := by
  obtain ⟨hok, h7⟩ := vpsB_iff.1 hL
  exact packRequest_w A c L d w h (fun p hp => Pk.ok_big (hok p hp)) (by omega)
end Go.Proofs.Ytjdjahckdgbkbaa
end
section
namespace Go.Proofs.Ytjdjahckdgbkbaa
open Go.RowKit
set_option linter.unusedVariables false
set_option maxHeartbeats 1000000
attribute [local go_sem 5000] run_mx run_mn
set_option maxRecDepth 100000 in
theorem expandShare_v (A : Option Addr) (c : Nat) (L : List Pk) (room : Int) (d : Bool) (w : World) (h : PV w A L) (hL : vpsB L = true) (p0 : Pk) (r0 : List Pk) (hp0 : L = p0 :: r0) (hd0 : p0.down = d) (hx0 : p0.ex = true) (hr : 0 ≤ room) (hr' : room ≤ 400) :
    Calls Try.prog 44 #[.slice A L.length c, .int .i64 room, .bool d] w fun e w' => e = .returned (.int .i64 (shareGo L d room room 0)) ∧ Below w.heap.size w w' := by
  obtain ⟨hok, h7⟩ := vpsB_iff.1 hL
  have H0 := Lib.hid (And.intro hp0 (And.intro hd0 hx0))
  have HL := Lib.hid hok
  clear hp0 hd0 hx0 hok hL
  obtain ⟨R, hR⟩ : ∃ R, shareGo L d room room 0 = R := ⟨_, rfl⟩
  rw [hR]
  have HR := Lib.hid hR
  clear hR
  go_enter Try.func44, Try.ntmps44
  go_wp2_with fail
  go_loopw [1, 7, 8, 14] (fun rm sh n i wr => ∃ (k : Nat) (a b q : Int), k ≤ L.length ∧ rm = .int .i64 a ∧ sh = .int .i64 b ∧ n = .int .i64 q ∧ i = .int .i64 k ∧ shareGo (L.drop k) d b a q = R ∧ (-(50 * (k : Int)) ≤ a ∧ a ≤ 400) ∧ (0 ≤ b ∧ b ≤ 400) ∧ (0 ≤ q ∧ q ≤ k) ∧ (1 ≤ k → 1 ≤ q) ∧ Below w.heap.size w wr) (fun _ _ _ i _ => L.length - (intOf i).toNat)
  case atStart => exact ⟨0, room, room, 0, by omega, rfl, rfl, rfl, rfl, HR.out, by omega, by omega, by omega, by omega, Below.refl _ _⟩
  case round =>
    obtain ⟨k, a, b, q, hk, rfl, rfl, rfl, rfl, hS, ⟨ha1, ha2⟩, ⟨hb1, hb2⟩, ⟨hq1, hq2⟩, hkq, hB⟩ := hrel
    have HBB := Lib.hid hB
    have HS := Lib.hid hS
    clear HR hB hS
    by_cases hlt : k < L.length
    · have hd : decide ((k : Int) < (L.length : Int)) = true := by simpa using hlt
      obtain ⟨g, off, rfl, hg, hp⟩ := (h.keep HBB.out).cells (by omega)
      obtain ⟨c0, c1, c2, c3, c4, c5, c6, c7, c8⟩ := hp k _ (List.getElem?_eq_getElem hlt)
      have hget : L[k]? = some L[k] := List.getElem?_eq_getElem hlt
      generalize hx : L[k] = p at *
      have hpk : p.ok = true := HL.out p (List.mem_of_getElem? hget)
      have nb := Pk.need_bd hpk d
      have hfst : k = 0 → p.down = d ∧ p.ex = true := by
        rintro rfl
        obtain ⟨e1, e2, e3⟩ := H0.out
        have e4 : p = p0 := by rw [e1] at hget; simpa using hget.symm
        rw [e4]; exact ⟨e2, e3⟩
      have HG := Lib.hid hget
      have HX := Lib.hid hx
      have HP := Lib.hid hp
      have HPK := Lib.hid hpk
      clear hget hx hp hpk
      by_cases hdn : p.down = d
      · have hne : (p.down != d) = false := by simp [hdn]
        have heq : (p.down == d) = true := by simp [hdn]
        have HDN := Lib.hid hdn
        have HF := Lib.hid hfst
        clear hdn hfst
        cases hex : p.ex
        all_goals
          have HEX := Lib.hid hex
          rw [hex] at c5
          clear hex
          go_wp2_with fail
          rw [← HEX.out]
          refine (isDown_v p _).mono ?_
          rintro e w1 ⟨rfl, hbb⟩
          have hv := (hbb.block wr.heap.size (by simp)).trans (heap_new wr _)
          replace HBB := Lib.hid (HBB.out.trans ((Below.refl wr.heap.size wr).alloc (Nat.le_refl _) _ |>.trans (hbb.mono (by simp)) |>.mono HBB.out.size))
          have HV := Lib.hid hv
          obtain ⟨v0, v1, v2, v3, v4, v5, v6, v7, v8⟩ := b9c hv
          clear hbb hv c0 c1 c2 c3 c4 c5 c6 c7 c8
          go_wp2_with fail
          refine (need_v p d _ HPK.out).mono ?_
          rintro e w2 ⟨rfl, hbb⟩
          have hv := (hbb.block wr.heap.size (Array.getElem?_eq_some_iff.1 HV.out).1).trans HV.out
          replace HBB := Lib.hid (HBB.out.trans (hbb.mono HBB.out.size))
          clear v0 v1 v2 v3 v4 v5 v6 v7 v8
          obtain ⟨v0, v1, v2, v3, v4, v5, v6, v7, v8⟩ := b9c hv
          rw [HEX.out] at v5
          clear hbb hv HV
          go_wp2
          go_roundw
        case rel => exact ⟨k + 1, _, _, _, by omega, rfl, rfl, rfl, by go_num, by rw [← HS.out, drop_cons HG.out, shareGo_plain HDN.out HEX.out], by omega, by omega, by omega, fun _ => hkq (by
          rcases Nat.eq_zero_or_pos k with e | e
          · have h9 := (HF.out e).2
            rw [HEX.out] at h9
            cases h9
          · exact e), HBB.out⟩
        case measure => simp [intOf]; omega
        case rel => exact ⟨k + 1, _, _, _, by omega, rfl, rfl, rfl, by go_num, by rw [← HS.out, drop_cons HG.out, shareGo_same HDN.out HEX.out], by omega, by omega, by omega, by omega, HBB.out⟩
        case measure => simp [intOf]; omega
      · have hne : (p.down != d) = true := by simpa using hdn
        have heq : (p.down == d) = false := by simpa using hdn
        have hk1 : 1 ≤ k := by
          rcases Nat.eq_zero_or_pos k with e | e
          · exact absurd (hfst e).1 hdn
          · exact e
        have hq3 : 1 ≤ q := hkq hk1
        have HDN := Lib.hid hdn
        have pb := part_bd (r := a - p.need d) (n := q) (by omega) hq3
        have mb := mx_spec (a - p.need d) 0
        have m0 : 0 ≤ mx (a - p.need d) 0 := by omega
        have nb2 := mn_spec b (mx (a - p.need d) 0 / q)
        have hq0 : ¬ q = 0 := by omega
        clear hdn hfst hkq
        go_wp2_with fail
        refine (isDown_v p _).mono ?_
        rintro e w1 ⟨rfl, hbb⟩
        have hv := (hbb.block wr.heap.size (by simp)).trans (heap_new wr _)
        replace HBB := Lib.hid (HBB.out.trans ((Below.refl wr.heap.size wr).alloc (Nat.le_refl _) _ |>.trans (hbb.mono (by simp)) |>.mono HBB.out.size))
        have HV := Lib.hid hv
        obtain ⟨v0, v1, v2, v3, v4, v5, v6, v7, v8⟩ := b9c hv
        clear hbb hv c0 c1 c2 c3 c4 c5 c6 c7 c8
        go_wp2_with fail
        refine (need_v p d _ HPK.out).mono ?_
        rintro e w2 ⟨rfl, hbb⟩
        replace HBB := Lib.hid (HBB.out.trans (hbb.mono HBB.out.size))
        clear v0 v1 v2 v3 v4 v5 v6 v7 v8 hbb HV
        go_wp2
        go_roundw
        case rel => exact ⟨k + 1, _, _, _, by omega, rfl, rfl, rfl, by go_num, by rw [← HS.out, drop_cons HG.out, shareGo_other HDN.out], by omega, by omega, by omega, by omega, HBB.out⟩
        case measure => simp [intOf]; omega
    · have hd : decide ((k : Int) < (L.length : Int)) = false := by simp; omega
      obtain rfl : k = L.length := by omega
      have hk1 : 1 ≤ L.length := by rw [H0.out.1]; simp
      have hq3 : 1 ≤ q := hkq hk1
      have hSS := HS.out
      rw [List.drop_length] at hSS
      have HS2 := Lib.hid hSS
      have pb := part_bd (r := a) (n := q) (by omega) hq3
      have mb := mx_spec a 0
      have m0 : 0 ≤ mx a 0 := by omega
      have hq0 : ¬ q = 0 := by omega
      clear hSS HS hkq
      go_wp2
      go_ret
      exact ⟨ret_int (by rw [← HS2.out]; rfl), HBB.out⟩
end Go.Proofs.Ytjdjahckdgbkbaa
end
section
namespace Go.Proofs.Ytjdjahckdgbkbaa
open Go.RowKit
set_option linter.unusedVariables false
set_option maxHeartbeats 1000000
attribute [local go_sem 5000] run_mx run_mn
theorem upright_p (p : Pk) (w : World) : Calls Try.prog 41 #[.int .i64 p.s] w fun e w' => e = .returned (.bool p.down) ∧ w = w' := upright_v p.s w
theorem mx_pos {a : Int} (h : 0 ≤ a) : mx a 0 = a := by have := mx_spec a 0; omega
set_option maxRecDepth 100000 in
theorem share_v (A : Option Addr) (c : Nat) (L : List Pk) (room : Int) (d : Bool) (w : World) (h : PV w A L) (hL : vpsB L = true) (p0 : Pk) (r0 : List Pk) (hp0 : L = p0 :: r0) (hd0 : p0.down = d) (hx0 : p0.ex = true) (hr : 0 ≤ room) (hr' : room ≤ 400) :
    Calls Try.prog 42 #[.slice A L.length c, .int .i64 room, .bool d] w fun e w' => e = .returned (.int .i64 (shareGo L d room room 0)) ∧ Below w.heap.size w w' := by
  obtain ⟨hok, h7⟩ := vpsB_iff.1 hL
  have H0 := Lib.hid (And.intro hp0 (And.intro hd0 hx0))
  have HL := Lib.hid hok
  clear hp0 hd0 hx0 hok hL
  obtain ⟨R, hR⟩ : ∃ R, shareGo L d room room 0 = R := ⟨_, rfl⟩
  rw [hR]
  have HR := Lib.hid hR
  clear hR
  go_enter Try.func42, Try.ntmps42
  go_wp2_with fail
  go_loopw [1, 7, 8, 9] (fun rm sh n i wr => ∃ (k : Nat) (a b q : Int), k ≤ L.length ∧ rm = .int .i64 a ∧ sh = .int .i64 b ∧ n = .int .i64 q ∧ i = .int .i64 k ∧ shareGo (L.drop k) d b a q = R ∧ (-(50 * (k : Int)) ≤ a ∧ a ≤ 400) ∧ (0 ≤ b ∧ b ≤ 400) ∧ (0 ≤ q ∧ q ≤ k) ∧ (1 ≤ k → 1 ≤ q) ∧ Below w.heap.size w wr) (fun _ _ _ i _ => L.length - (intOf i).toNat)
  case atStart => exact ⟨0, room, room, 0, by omega, rfl, rfl, rfl, rfl, HR.out, by omega, by omega, by omega, by omega, Below.refl _ _⟩
  case round =>
    obtain ⟨k, a, b, q, hk, rfl, rfl, rfl, rfl, hS, ⟨ha1, ha2⟩, ⟨hb1, hb2⟩, ⟨hq1, hq2⟩, hkq, hB⟩ := hrel
    have HBB := Lib.hid hB
    have HS := Lib.hid hS
    clear HR hB hS
    by_cases hlt : k < L.length
    · have hd : decide ((k : Int) < (L.length : Int)) = true := by simpa using hlt
      obtain ⟨g, off, rfl, hg, hp⟩ := (h.keep HBB.out).cells (by omega)
      obtain ⟨c0, c1, c2, c3, c4, c5, c6, c7, c8⟩ := hp k _ (List.getElem?_eq_getElem hlt)
      have hget : L[k]? = some L[k] := List.getElem?_eq_getElem hlt
      generalize hx : L[k] = p at *
      have hpk : p.ok = true := HL.out p (List.mem_of_getElem? hget)
      have nb := Pk.need_bd hpk d
      have hfst : k = 0 → p.down = d ∧ p.ex = true := by
        rintro rfl
        obtain ⟨e1, e2, e3⟩ := H0.out
        have e4 : p = p0 := by rw [e1] at hget; simpa using hget.symm
        rw [e4]; exact ⟨e2, e3⟩
      have HG := Lib.hid hget
      have HX := Lib.hid hx
      have HP := Lib.hid hp
      have HPK := Lib.hid hpk
      clear hget hx hp hpk
      by_cases hdn : p.down = d
      · have heq : (p.down == d) = true := by simp [hdn]
        have HDN := Lib.hid hdn
        have HF := Lib.hid hfst
        clear hdn hfst
        cases hex : p.ex
        all_goals
          have HEX := Lib.hid hex
          have HC5 := Lib.hid c5
          clear hex
          go_wp2_with fail
          refine (outer_v p _ HPK.out).mono ?_
          rintro e w1 ⟨rfl, hbb⟩
          obtain ⟨d0, d1, d2, d3, d4, d5, d6, d7, d8⟩ := (HP.out k p HG.out).keep (hbb.block g hg)
          rw [HEX.out] at d5
          replace HBB := Lib.hid (HBB.out.trans (hbb.mono HBB.out.size))
          clear hbb c0 c1 c2 c3 c4 c5 c6 c7 c8
          cases d
          all_goals
            go_wp2_with fail
            refine (upright_p p _).mono ?_
            rintro e w2 ⟨rfl, rfl⟩
            go_wp2
            go_roundw
        case rel => exact ⟨k + 1, _, _, _, by omega, rfl, rfl, rfl, by go_num, by rw [← HS.out, drop_cons HG.out, shareGo_plain HDN.out HEX.out], by omega, by omega, by omega, fun _ => hkq (by
          rcases Nat.eq_zero_or_pos k with e | e
          · have h9 := (HF.out e).2
            rw [HEX.out] at h9
            cases h9
          · exact e), HBB.out⟩
        case measure => simp [intOf]; omega
        case rel => exact ⟨k + 1, _, _, _, by omega, rfl, rfl, rfl, by go_num, by rw [← HS.out, drop_cons HG.out, shareGo_plain HDN.out HEX.out], by omega, by omega, by omega, fun _ => hkq (by
          rcases Nat.eq_zero_or_pos k with e | e
          · have h9 := (HF.out e).2
            rw [HEX.out] at h9
            cases h9
          · exact e), HBB.out⟩
        case measure => simp [intOf]; omega
        case rel => exact ⟨k + 1, _, _, _, by omega, rfl, rfl, rfl, by go_num, by rw [← HS.out, drop_cons HG.out, shareGo_same HDN.out HEX.out], by omega, by omega, by omega, by omega, HBB.out⟩
        case measure => simp [intOf]; omega
        case rel => exact ⟨k + 1, _, _, _, by omega, rfl, rfl, rfl, by go_num, by rw [← HS.out, drop_cons HG.out, shareGo_same HDN.out HEX.out], by omega, by omega, by omega, by omega, HBB.out⟩
        case measure => simp [intOf]; omega
      · have heq : (p.down == d) = false := by simpa using hdn
        have hk1 : 1 ≤ k := by
          rcases Nat.eq_zero_or_pos k with e | e
          · exact absurd (hfst e).1 hdn
          · exact e
        have hq3 : 1 ≤ q := hkq hk1
        have HDN := Lib.hid hdn
        have pb := part_bd (r := a - p.need d) (n := q) (by omega) hq3
        have nb2 := mn_spec b (mx (a - p.need d) 0 / q)
        have hq0 : decide (0 < q) = true := by simp; omega
        clear hdn hfst hkq
        go_wp2_with fail
        refine (outer_v p _ HPK.out).mono ?_
        rintro e w1 ⟨rfl, hbb⟩
        obtain ⟨d0, d1, d2, d3, d4, d5, d6, d7, d8⟩ := (HP.out k p HG.out).keep (hbb.block g hg)
        replace HBB := Lib.hid (HBB.out.trans (hbb.mono HBB.out.size))
        clear hbb c0 c1 c2 c3 c4 c5 c6 c7 c8
        cases d
        all_goals
          go_wp2_with fail
          refine (upright_p p _).mono ?_
          rintro e w2 ⟨rfl, rfl⟩
          go_wp2_with fail
          first | refine (half_v (a - p.need false) q _ (by omega) (by omega) hq3 (by omega)).mono ?_ | refine (half_v (a - p.need true) q _ (by omega) (by omega) hq3 (by omega)).mono ?_
          rintro e w3 ⟨rfl, rfl⟩
          go_wp2
          go_roundw
          case rel => exact ⟨k + 1, _, _, _, by omega, rfl, rfl, rfl, by go_num, by rw [← HS.out, drop_cons HG.out, shareGo_other HDN.out], by omega, by omega, by omega, by omega, HBB.out⟩
          case measure => simp [intOf]; omega
    · have hd : decide ((k : Int) < (L.length : Int)) = false := by simp; omega
      obtain rfl : k = L.length := by omega
      have hk1 : 1 ≤ L.length := by rw [H0.out.1]; simp
      have hq3 : 1 ≤ q := hkq hk1
      have hSS := HS.out
      rw [List.drop_length] at hSS
      have HS2 := Lib.hid hSS
      have pb := part_bd (r := a) (n := q) (by omega) hq3
      have nb2 := mn_spec b (mx a 0 / q)
      have hq0 : decide (0 < q) = true := by simp; omega
      have hmx : mx (mn b (mx a 0 / q)) 0 = mn b (mx a 0 / q) := mx_pos (by omega)
      have HMX := Lib.hid hmx
      clear hSS HS hkq hmx
      go_wp2_with fail
      refine (half_v a q _ (by omega) (by omega) hq3 (by omega)).mono ?_
      rintro e w3 ⟨rfl, rfl⟩
      go_wp2
      go_ret
      exact ⟨ret_int (by rw [HMX.out, ← HS2.out]; rfl), HBB.out⟩
end Go.Proofs.Ytjdjahckdgbkbaa
end
section
namespace Go.Proofs.Ytjdjahckdgbkbaa
open Go.RowKit
set_option linter.unusedVariables false
set_option maxHeartbeats 1000000
attribute [local go_sem 5000] run_mx run_mn
def esB (L : List Pk) (room : Int) (d : Bool) : Bool := vpsB L && (match L with
  | [] => false
  | p :: _ => rng room 0 400 && (p.ex && (p.down == d)))
theorem esB_yes {L : List Pk} {room : Int} {d : Bool} (h : esB L room d = true) : ∃ p r, L = p :: r ∧ vpsB L = true ∧ rng room 0 400 = true ∧ p.ex = true ∧ p.down = d := by
  unfold esB at h
  rw [Bool.and_eq_true] at h
  obtain ⟨h1, h2⟩ := h
  match L, h1, h2 with
  | p :: r, h1, h2 =>
    simp only [Bool.and_eq_true, beq_iff_eq] at h2
    exact ⟨p, r, rfl, h1, h2.1, h2.2.1, h2.2.2⟩
theorem esB_no {L : List Pk} {room : Int} {d : Bool} (h : esB L room d = false) : L = [] ∨ (∃ p r, L = p :: r ∧ (vpsB L = false ∨ (vpsB L = true ∧ rng room 0 400 = false) ∨ (vpsB L = true ∧ rng room 0 400 = true ∧ p.ex = false) ∨ (vpsB L = true ∧ rng room 0 400 = true ∧ p.ex = true ∧ (p.down == d) = false))) := by
  match L, h with
  | [], _ => exact .inl rfl
  | p :: r, h =>
    refine .inr ⟨p, r, rfl, ?_⟩
    unfold esB at h
    cases h1 : vpsB (p :: r)
    · exact .inl rfl
    · cases h2 : rng room 0 400
      · exact .inr (.inl ⟨rfl, rfl⟩)
      · cases h3 : p.ex
        · exact .inr (.inr (.inl ⟨rfl, rfl, rfl⟩))
        · simp [h1, h2, h3] at h
          exact .inr (.inr (.inr ⟨rfl, rfl, rfl, by simpa using h⟩))
theorem first_cells {w : World} {A : Option Addr} {L : List Pk} {p : Pk} {r : List Pk} (h : PV w A L) (e : L = p :: r) : ∃ b off, A = some ⟨b, off, none⟩ ∧ b < w.heap.size ∧ Cells9 w b off p := by
  subst e
  obtain ⟨b, off, e, hb, hp⟩ := h.cells (by simp)
  have := hp 0 p rfl
  exact ⟨b, off, e, hb, by simpa using this⟩
theorem vps_v (A : Option Addr) (c : Nat) (L : List Pk) (b : Bool) (w : World) (h : PV w A L) (hL : L.length ≤ 1048576) (hb : vpsB L = b) :
    Calls Try.prog 37 #[.slice A L.length c] w fun e w' => e = .returned (.bool b) ∧ Below w.heap.size w w' := by rw [← hb]; exact validPacks_any A c L w h hL
theorem svps_v (A : Option Addr) (c : Nat) (L : List Pk) (b : Bool) (w : World) (h : PV w A L) (hL : L.length ≤ 1048576) (hb : vpsB L = b) :
    Calls Try.prog 35 #[.slice A L.length c] w fun e w' => e = .returned (.bool b) ∧ Below w.heap.size w w' := by rw [← hb]; exact svalidPacks_any A c L w h hL
theorem within_v (n a b : Int) (t : Bool) (w : World) (h : rng n a b = t) : Calls Try.prog 34 #[.int .i64 n, .int .i64 a, .int .i64 b] w fun e w' => e = .returned (.bool t) ∧ w = w' := by rw [← h]; exact within_any n a b w
theorem inRange_v (n a b : Int) (t : Bool) (w : World) (h : rng n a b = t) : Calls Try.prog 40 #[.int .i64 n, .int .i64 a, .int .i64 b] w fun e w' => e = .returned (.bool t) ∧ w = w' := by rw [← h]; exact inRange_any n a b w
set_option maxRecDepth 100000 in
theorem ExpandShare_yes (A : Option Addr) (c : Nat) (L : List Pk) (room : Int) (d : Bool) (w : World) (h : PV w A L) (hL : L.length ≤ 1048576) (hE : esB L room d = true) :
    Calls Try.prog 18 #[.slice A L.length c, .int .i64 room, .bool d] w fun e w' => e = .returned (.int .i64 (shareGo L d room room 0)) ∧ Below w.heap.size w w' := by
  obtain ⟨p, r, e0, hv, hr, hx, hdn⟩ := esB_yes hE
  obtain ⟨hr1, hr2⟩ := rng_iff.1 hr
  obtain ⟨g, off, eA, hg, hc⟩ := first_cells h e0
  have heq : (p.down == d) = true := by simp [hdn]
  have hlen : ((L.length : Int) == 0) = false := by rw [e0]; simp; omega
  have hlp : 0 < L.length := by rw [e0]; simp
  have hex := hx
  have HE := Lib.hid e0
  clear e0 hE
  subst eA
  go_enter Try.func18, Try.ntmps18
  go_wp2_with fail
  with_reducible refine (vps_v _ c L true _ h hL hv).mono ?_
  rintro e w1 ⟨rfl, hbb⟩
  have HB := Lib.hid hbb
  try (obtain ⟨c0, c1, c2, c3, c4, c5, c6, c7, c8⟩ := hc.keep (hbb.block g hg))
  try (rw [hex] at c5)
  clear hbb
  go_wp2_with fail
  with_reducible refine (within_v _ _ _ true _ hr).mono ?_
  rintro e w2 ⟨rfl, rfl⟩
  go_wp2_with fail
  with_reducible refine (isDown_x p _ _).mono ?_
  rintro e w3 ⟨rfl, hbb⟩
  replace HB := Lib.hid (bkeep2 HB.out hbb)
  clear hbb c0 c1 c2 c3 c4 c5 c6 c7 c8
  go_wp2_with fail
  with_reducible refine (expandShare_v _ c L room d _ (h.keep HB.out) hv p r HE.out hdn hx hr1 hr2).mono ?_
  rintro e w4 ⟨rfl, hbb⟩
  replace HB := Lib.hid (bkeep2 HB.out hbb)
  clear hbb
  go_wp2
  go_ret
  exact ⟨rfl, HB.out⟩
set_option maxRecDepth 100000 in
theorem ExpandShare_no (A : Option Addr) (c : Nat) (L : List Pk) (room : Int) (d : Bool) (w : World) (h : PV w A L) (hL : L.length ≤ 1048576) (hE : esB L room d = false) :
    Calls Try.prog 18 #[.slice A L.length c, .int .i64 room, .bool d] w fun e w' => e = .returned (.int .i64 (-1)) ∧ Below w.heap.size w w' := by
  rcases esB_no hE with rfl | ⟨p, r, e0, hcase⟩
  · clear hE
    go_enter Try.func18, Try.ntmps18
    go_wp2
    go_ret
    exact ⟨rfl, Below.refl _ _⟩
  · obtain ⟨g, off, eA, hg, hc⟩ := first_cells h e0
    have hlen : ((L.length : Int) == 0) = false := by rw [e0]; simp; omega
    have hlp : 0 < L.length := by rw [e0]; simp
    subst eA
    clear e0 hE
    rcases hcase with hv | ⟨hv, hr⟩ | ⟨hv, hr, hex⟩ | ⟨hv, hr, hex, heq⟩
    · skip
      go_enter Try.func18, Try.ntmps18
      go_wp2_with fail
      with_reducible refine (vps_v _ c L false _ h hL hv).mono ?_
      rintro e w1 ⟨rfl, hbb⟩
      have HB := Lib.hid hbb
      clear hbb
      go_wp2
      go_ret
      exact ⟨rfl, HB.out⟩
    · skip
      go_enter Try.func18, Try.ntmps18
      go_wp2_with fail
      with_reducible refine (vps_v _ c L true _ h hL hv).mono ?_
      rintro e w1 ⟨rfl, hbb⟩
      have HB := Lib.hid hbb
      try (obtain ⟨c0, c1, c2, c3, c4, c5, c6, c7, c8⟩ := hc.keep (hbb.block g hg))
      try (rw [hex] at c5)
      clear hbb
      go_wp2_with fail
      with_reducible refine (within_v _ _ _ false _ hr).mono ?_
      rintro e w2 ⟨rfl, rfl⟩
      go_wp2
      go_ret
      exact ⟨rfl, HB.out⟩
    · skip
      go_enter Try.func18, Try.ntmps18
      go_wp2_with fail
      with_reducible refine (vps_v _ c L true _ h hL hv).mono ?_
      rintro e w1 ⟨rfl, hbb⟩
      have HB := Lib.hid hbb
      try (obtain ⟨c0, c1, c2, c3, c4, c5, c6, c7, c8⟩ := hc.keep (hbb.block g hg))
      try (rw [hex] at c5)
      clear hbb
      go_wp2_with fail
      with_reducible refine (within_v _ _ _ true _ hr).mono ?_
      rintro e w2 ⟨rfl, rfl⟩
      go_wp2
      go_ret
      exact ⟨rfl, HB.out⟩
    · skip
      go_enter Try.func18, Try.ntmps18
      go_wp2_with fail
      with_reducible refine (vps_v _ c L true _ h hL hv).mono ?_
      rintro e w1 ⟨rfl, hbb⟩
      have HB := Lib.hid hbb
      try (obtain ⟨c0, c1, c2, c3, c4, c5, c6, c7, c8⟩ := hc.keep (hbb.block g hg))
      try (rw [hex] at c5)
      clear hbb
      go_wp2_with fail
      with_reducible refine (within_v _ _ _ true _ hr).mono ?_
      rintro e w2 ⟨rfl, rfl⟩
      go_wp2_with fail
      with_reducible refine (isDown_x p _ _).mono ?_
      rintro e w3 ⟨rfl, hbb⟩
      replace HB := Lib.hid (bkeep2 HB.out hbb)
      clear hbb c0 c1 c2 c3 c4 c5 c6 c7 c8
      go_wp2
      go_ret
      exact ⟨rfl, HB.out⟩
set_option maxRecDepth 100000 in
theorem sExpandShare_yes (A : Option Addr) (c : Nat) (L : List Pk) (room : Int) (d : Bool) (w : World) (h : PV w A L) (hL : L.length ≤ 1048576) (hE : esB L room d = true) :
    Calls Try.prog 17 #[.slice A L.length c, .int .i64 room, .bool d] w fun e w' => e = .returned (.int .i64 (shareGo L d room room 0)) ∧ Below w.heap.size w w' := by
  obtain ⟨p, r, e0, hv, hr, hx, hdn⟩ := esB_yes hE
  obtain ⟨hr1, hr2⟩ := rng_iff.1 hr
  obtain ⟨g, off, eA, hg, hc⟩ := first_cells h e0
  have heq : (p.down == d) = true := by simp [hdn]
  have hlen : ((L.length : Int) == 0) = false := by rw [e0]; simp; omega
  have hlp : 0 < L.length := by rw [e0]; simp
  have hex := hx
  have HE := Lib.hid e0
  clear e0 hE
  subst eA
  go_enter Try.func17, Try.ntmps17
  go_wp2_with fail
  with_reducible refine (svps_v _ c L true _ h hL hv).mono ?_
  rintro e w1 ⟨rfl, hbb⟩
  have HB := Lib.hid hbb
  try (obtain ⟨c0, c1, c2, c3, c4, c5, c6, c7, c8⟩ := hc.keep (hbb.block g hg))
  try (rw [hex] at c5)
  clear hbb
  go_wp2_with fail
  with_reducible refine (inRange_v _ _ _ true _ hr).mono ?_
  rintro e w2 ⟨rfl, rfl⟩
  go_wp2_with fail
  with_reducible refine (upright_p p _).mono ?_
  rintro e w3 ⟨rfl, rfl⟩
  go_wp2_with fail
  with_reducible refine (share_v _ c L room d _ (h.keep HB.out) hv p r HE.out hdn hx hr1 hr2).mono ?_
  rintro e w4 ⟨rfl, hbb⟩
  replace HB := Lib.hid (bkeep2 HB.out hbb)
  clear hbb
  go_wp2
  go_ret
  exact ⟨rfl, HB.out⟩
set_option maxRecDepth 100000 in
theorem sExpandShare_no (A : Option Addr) (c : Nat) (L : List Pk) (room : Int) (d : Bool) (w : World) (h : PV w A L) (hL : L.length ≤ 1048576) (hE : esB L room d = false) :
    Calls Try.prog 17 #[.slice A L.length c, .int .i64 room, .bool d] w fun e w' => e = .returned (.int .i64 (-1)) ∧ Below w.heap.size w w' := by
  rcases esB_no hE with rfl | ⟨p, r, e0, hcase⟩
  · clear hE
    have hv : vpsB [] = true := rfl
    go_enter Try.func17, Try.ntmps17
    go_wp2_with fail
    refine (svps_v _ c [] true _ h hL hv).mono ?_
    rintro e w1 ⟨rfl, hbb⟩
    have HB := Lib.hid hbb
    clear hbb
    go_wp2
    go_ret
    exact ⟨rfl, HB.out⟩
  · obtain ⟨g, off, eA, hg, hc⟩ := first_cells h e0
    have hlen : ((L.length : Int) == 0) = false := by rw [e0]; simp; omega
    have hlp : 0 < L.length := by rw [e0]; simp
    subst eA
    clear e0 hE
    rcases hcase with hv | ⟨hv, hr⟩ | ⟨hv, hr, hex⟩ | ⟨hv, hr, hex, heq⟩
    · skip
      go_enter Try.func17, Try.ntmps17
      go_wp2_with fail
      with_reducible refine (svps_v _ c L false _ h hL hv).mono ?_
      rintro e w1 ⟨rfl, hbb⟩
      have HB := Lib.hid hbb
      clear hbb
      go_wp2
      go_ret
      exact ⟨rfl, HB.out⟩
    · skip
      cases hex : p.ex
      · skip
        go_enter Try.func17, Try.ntmps17
        go_wp2_with fail
        with_reducible refine (svps_v _ c L true _ h hL hv).mono ?_
        rintro e w1 ⟨rfl, hbb⟩
        have HB := Lib.hid hbb
        try (obtain ⟨c0, c1, c2, c3, c4, c5, c6, c7, c8⟩ := hc.keep (hbb.block g hg))
        try (rw [hex] at c5)
        clear hbb
        go_wp2
        go_ret
        exact ⟨rfl, HB.out⟩
      · skip
        go_enter Try.func17, Try.ntmps17
        go_wp2_with fail
        with_reducible refine (svps_v _ c L true _ h hL hv).mono ?_
        rintro e w1 ⟨rfl, hbb⟩
        have HB := Lib.hid hbb
        try (obtain ⟨c0, c1, c2, c3, c4, c5, c6, c7, c8⟩ := hc.keep (hbb.block g hg))
        try (rw [hex] at c5)
        clear hbb
        go_wp2_with fail
        with_reducible refine (inRange_v _ _ _ false _ hr).mono ?_
        rintro e w2 ⟨rfl, rfl⟩
        go_wp2
        go_ret
        exact ⟨rfl, HB.out⟩
    · skip
      go_enter Try.func17, Try.ntmps17
      go_wp2_with fail
      with_reducible refine (svps_v _ c L true _ h hL hv).mono ?_
      rintro e w1 ⟨rfl, hbb⟩
      have HB := Lib.hid hbb
      try (obtain ⟨c0, c1, c2, c3, c4, c5, c6, c7, c8⟩ := hc.keep (hbb.block g hg))
      try (rw [hex] at c5)
      clear hbb
      go_wp2
      go_ret
      exact ⟨rfl, HB.out⟩
    · skip
      go_enter Try.func17, Try.ntmps17
      go_wp2_with fail
      with_reducible refine (svps_v _ c L true _ h hL hv).mono ?_
      rintro e w1 ⟨rfl, hbb⟩
      have HB := Lib.hid hbb
      try (obtain ⟨c0, c1, c2, c3, c4, c5, c6, c7, c8⟩ := hc.keep (hbb.block g hg))
      try (rw [hex] at c5)
      clear hbb
      go_wp2_with fail
      with_reducible refine (inRange_v _ _ _ true _ hr).mono ?_
      rintro e w2 ⟨rfl, rfl⟩
      go_wp2_with fail
      with_reducible refine (upright_p p _).mono ?_
      rintro e w3 ⟨rfl, rfl⟩
      go_wp2
      go_ret
      exact ⟨rfl, HB.out⟩
end Go.Proofs.Ytjdjahckdgbkbaa
end
section
namespace Go.Proofs.Ytjdjahckdgbkbaa
open Go.RowKit
set_option linter.unusedVariables false
set_option maxHeartbeats 1000000
attribute [local go_sem 5000] run_mx run_mn
set_option maxRecDepth 100000 in
theorem request_w (A : Option Addr) (c : Nat) (L : List Pk) (w : World) (h : PV w A L) (hok : ∀ p ∈ L, p.big) (h7 : L.length ≤ 10) :
    Calls Try.prog 36 #[.slice A L.length c] w fun e w' => e = .returned (.tuple #[.int .i64 (reqM L).1, .int .i64 (reqM L).2]) ∧ Below w.heap.size w w' := by
  have HOK := Lib.hid hok
  clear hok
  go_enter Try.func36, Try.ntmps36
  go_wp2_with fail
  go_loopw [4, 5, 6] (fun a b i wr => ∃ k : Nat, k ≤ L.length ∧ i = .int .i64 ((k : Int) - 1) ∧ a = .int .i64 (reqM (L.drop k)).1 ∧ b = .int .i64 (reqM (L.drop k)).2 ∧ Below w.heap.size w wr) (fun _ _ i _ => (intOf i + 1).toNat)
  case atStart => exact ⟨L.length, Nat.le_refl _, rfl, by rw [List.drop_length]; rfl, by rw [List.drop_length]; rfl, Below.refl _ _⟩
  case round =>
    obtain ⟨k, hk, rfl, rfl, rfl, hB⟩ := hrel
    rcases k with _ | j
    · have hd : decide (((0 : Nat) : Int) - 1 ≥ 0) = false := by simp
      have HBB := Lib.hid hB
      clear hB
      rw [List.drop_zero]
      go_wp2
      exact bodyPost_ret (v := .tuple #[.int .i64 (reqM L).1, .int .i64 (reqM L).2]) (by simp only [results, Try.results36]; go_simp) rfl ⟨rfl, HBB.out⟩
    · have e1 : ((j + 1 : Nat) : Int) - 1 = (j : Int) := by omega
      rw [e1]
      have hlt : j < L.length := by omega
      have hd : decide ((j : Int) ≥ 0) = true := by simp
      have hd2 : decide ((0 : Int) ≤ (j : Int)) = true := by simp
      obtain ⟨b, off, rfl, hb, hps⟩ := (h.keep hB).cells (by omega)
      have hget : L[j]? = some L[j] := List.getElem?_eq_getElem hlt
      obtain ⟨c0, c1, c2, c3, c4, c5, c6, c7, c8⟩ := hps j _ hget
      generalize hx : L[j] = p at *
      have hpk : p.big := HOK.out p (List.mem_of_getElem? hget)
      have hdrop := drop_cons hget
      obtain ⟨q1, q2, q3, q4⟩ := reqM_bdW (L := L.drop (j + 1)) (fun q hq => HOK.out q (List.mem_of_mem_drop hq))
      rw [List.length_drop] at q2 q4
      have n1 := Pk.need_bdW hpk false
      have n2 := Pk.need_bdW hpk true
      obtain ⟨U, hU⟩ : ∃ U, (reqM (L.drop (j + 1))).1 = U := ⟨_, rfl⟩
      obtain ⟨V, hV⟩ : ∃ V, (reqM (L.drop (j + 1))).2 = V := ⟨_, rfl⟩
      rw [hU] at q1 q2
      rw [hV] at q3 q4
      rw [hU, hV]
      have HU := Lib.hid hU
      have HV := Lib.hid hV
      have HD := Lib.hid hdrop
      have HPS := Lib.hid hps
      have HG := Lib.hid hget
      have HBB := Lib.hid hB
      clear hU hV hdrop hx hps hget hB e1
      go_wp2_with fail
      refine (outer_w p _ hpk).mono ?_
      rintro e w1 ⟨rfl, hb1⟩
      have hc9 := (HPS.out j p HG.out).keep (hb1.block b hb)
      obtain ⟨d0, d1, d2, d3, d4, d5, d6, d7, d8⟩ := hc9
      replace HBB := Lib.hid (HBB.out.trans (hb1.mono HBB.out.size))
      clear hb1 c0 c1 c2 c3 c4 c5 c6 c7 c8
      have hjs : IntKind.i64.wrap ((j : Int) - 1) = (j : Int) - 1 := IntWalk.i64_in _ (by omega)
      cases hdn : p.down
      · go_wp2_with fail
        refine (upright_p p _).mono ?_
        rintro e w2 ⟨rfl, rfl⟩
        rw [hdn]
        go_wp2
        go_roundw
        case rel => exact ⟨j, by omega, by go_num, by rw [HD.out]; simp [reqM, hdn, HU.out, HV.out], by rw [HD.out]; simp [reqM, hdn, HU.out, HV.out], HBB.out⟩
        case measure => simp [intOf]
      · go_wp2_with fail
        refine (upright_p p _).mono ?_
        rintro e w2 ⟨rfl, rfl⟩
        rw [hdn]
        go_wp2
        go_roundw
        case rel => exact ⟨j, by omega, by go_num, by rw [HD.out]; simp [reqM, hdn, HU.out, HV.out], by rw [HD.out]; simp [reqM, hdn, HU.out, HV.out], HBB.out⟩
        case measure => simp [intOf]
theorem request_v (A : Option Addr) (c : Nat) (L : List Pk) (w : World) (h : PV w A L) (hL : vpsB L = true) :
    Calls Try.prog 36 #[.slice A L.length c] w fun e w' => e = .returned (.tuple #[.int .i64 (reqM L).1, .int .i64 (reqM L).2]) ∧ Below w.heap.size w w' := by
  obtain ⟨hok, h7⟩ := vpsB_iff.1 hL
  exact request_w A c L w h (fun p hp => Pk.ok_big (hok p hp)) (by omega)
end Go.Proofs.Ytjdjahckdgbkbaa
end
section
namespace Go.Proofs.Ytjdjahckdgbkbaa
open Go.RowKit
set_option linter.unusedVariables false
set_option maxHeartbeats 1000000
attribute [local go_sem 5000] run_mx run_mn
def reqP (L : List Pk) : Int × Int := if vpsB L then reqM L else (-1, -1)
set_option maxRecDepth 100000 in
theorem PackRequest_c (A : Option Addr) (c n : Nat) (L : List Pk) (w : World) (h : PV w A L) (hn : n = L.length) (hL : n ≤ 1048576) (a b : Int) (hr : reqP L = (a, b)) :
    Calls Try.prog 15 #[.slice A n c] w fun e w' => e = .returned (.tuple #[.int .i64 a, .int .i64 b]) ∧ Below w.heap.size w w' := by
  subst hn
  unfold reqP at hr
  cases hv : vpsB L
  · rw [hv] at hr
    simp at hr
    obtain ⟨rfl, rfl⟩ := hr
    go_enter Try.func15, Try.ntmps15
    go_wp2_with fail
    with_reducible refine (vps_v _ c L false _ h hL hv).mono ?_
    rintro e w1 ⟨rfl, hbb⟩
    have HB := Lib.hid hbb
    clear hbb
    go_wp2
    exact bodyPost_ret (v := .tuple #[.int .i64 (-1), .int .i64 (-1)]) (by simp only [results, Try.results15]; go_simp) rfl ⟨rfl, HB.out⟩
  · rw [hv] at hr
    simp only [if_true] at hr
    have h1 : reqD L false = a := by show (reqM L).1 = a; rw [hr]
    have h2 : reqD L true = b := by show (reqM L).2 = b; rw [hr]
    have H1 := Lib.hid h1
    have H2 := Lib.hid h2
    clear h1 h2 hr
    go_enter Try.func15, Try.ntmps15
    go_wp2_with fail
    with_reducible refine (vps_v _ c L true _ h hL hv).mono ?_
    rintro e w1 ⟨rfl, hbb⟩
    have HB := Lib.hid hbb
    clear hbb
    go_wp2_with fail
    with_reducible refine (packRequest_v A c L false _ (h.keep HB.out) hv).mono ?_
    rintro e w2 ⟨rfl, hb2⟩
    rw [H1.out]
    replace HB := Lib.hid (bkeep2 HB.out hb2)
    clear hb2
    go_wp2_with fail
    with_reducible refine (packRequest_v A c L true _ (h.keep HB.out) hv).mono ?_
    rintro e w3 ⟨rfl, hb3⟩
    rw [H2.out]
    replace HB := Lib.hid (bkeep2 HB.out hb3)
    clear hb3
    go_wp2
    exact bodyPost_ret (v := .tuple #[.int .i64 a, .int .i64 b]) (by simp only [results, Try.results15]; go_simp) rfl ⟨rfl, HB.out⟩
set_option maxRecDepth 100000 in
theorem sPackRequest_c (A : Option Addr) (c n : Nat) (L : List Pk) (w : World) (h : PV w A L) (hn : n = L.length) (hL : n ≤ 1048576) (a b : Int) (hr : reqP L = (a, b)) :
    Calls Try.prog 13 #[.slice A n c] w fun e w' => e = .returned (.tuple #[.int .i64 a, .int .i64 b]) ∧ Below w.heap.size w w' := by
  subst hn
  unfold reqP at hr
  cases hv : vpsB L
  · rw [hv] at hr
    simp at hr
    obtain ⟨rfl, rfl⟩ := hr
    go_enter Try.func13, Try.ntmps13
    go_wp2_with fail
    with_reducible refine (svps_v _ c L false _ h hL hv).mono ?_
    rintro e w1 ⟨rfl, hbb⟩
    have HB := Lib.hid hbb
    clear hbb
    go_wp2
    exact bodyPost_ret (v := .tuple #[.int .i64 (-1), .int .i64 (-1)]) (by simp only [results, Try.results13]; go_simp) rfl ⟨rfl, HB.out⟩
  · rw [hv] at hr
    simp only [if_true] at hr
    have h1 : (reqM L).1 = a := by rw [hr]
    have h2 : (reqM L).2 = b := by rw [hr]
    have H1 := Lib.hid h1
    have H2 := Lib.hid h2
    clear h1 h2 hr
    go_enter Try.func13, Try.ntmps13
    go_wp2_with fail
    with_reducible refine (svps_v _ c L true _ h hL hv).mono ?_
    rintro e w1 ⟨rfl, hbb⟩
    have HB := Lib.hid hbb
    clear hbb
    go_wp2_with fail
    with_reducible refine (request_v A c L _ (h.keep HB.out) hv).mono ?_
    rintro e w2 ⟨rfl, hb2⟩
    rw [H1.out, H2.out]
    replace HB := Lib.hid (bkeep2 HB.out hb2)
    clear hb2
    go_wp2
    exact bodyPost_ret (v := .tuple #[.int .i64 a, .int .i64 b]) (by simp only [results, Try.results13]; go_simp) rfl ⟨rfl, HB.out⟩
end Go.Proofs.Ytjdjahckdgbkbaa
end
