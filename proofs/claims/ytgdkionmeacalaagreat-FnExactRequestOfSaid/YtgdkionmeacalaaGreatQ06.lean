import Derived.Test.YtgdkionmeacalaaGreatQ05
import Derived.Orders
import Derived.Below
import Derived.Deep.Draws
section
namespace Go.Proofs.YtgdkionmeacalaaGreat
open Go.RowKit
set_option linter.unusedVariables false
set_option maxHeartbeats 4000000
attribute [local go_sem 5000] run_mx run_mn
attribute [local go_sem] Oper.semAt_some
set_option maxRecDepth 100000 in
theorem backward_in (F : Fence) (n : Nat) (hF : F.fn 196) (hro : F.round = none) (a : Option Addr) (len cap : Nat) (w : World) :
    CallsIn F n Tryz.prog 196 #[.slice a len cap] w fun e w' => e = .returned (.func (.func 202) #[] #[.pointer (some ⟨w.heap.size, 0, none⟩)]) ∧ w' = w.alloc (.cells #[.slice a len cap] 87) := by
  refine callsIn_of_wp Tryz.func196 rfl hF ?_ hro
  simp only [Tryz.ntmps196, List.size_toArray, List.length_cons, List.length_nil, Nat.reduceAdd, Nat.reduceSub, Array.replicate_succ, Array.replicate_zero, List.push_toArray, List.append_toArray, List.nil_append, List.cons_append]
  gi_wp2
  go_ret
  exact ⟨rfl, rfl⟩
theorem bk_stops (F : Fence) (n : Nat) (hF : F.fn 202) (hro : F.round = none) (hn : 1 ≤ n) (Bs n0 : Nat) (A : Option Addr) (c : Nat) (L : List Pk) (hL : L.length ≤ 10) (hok : ∀ p ∈ L, p.big) (w : World) (hBs : Bs < w.heap.size) (hn0 : n0 ≤ w.heap.size)
    (hc : w.cell? ⟨Bs, 0, none⟩ = some (.slice A L.length c)) (hp : PVn n0 w A L) :
    SeqStopsK F n Tryz.prog 202 #[.pointer (some ⟨Bs, 0, none⟩)] encB (KpB n0 Bs) (fun ys => ys.map BkE.p = L.reverse) (fun _ => True) L.length w := fun l J Jx W hW _ _ hY h0 =>
  bk1_in F n hF hro hn l Bs n0 A c L hL hok J Jx hY W ((hW.cell (p := ⟨Bs, 0, none⟩) hBs).trans hc) (hp.below (hW.mono hn0)) h0
/-- what the items that have come need -/
def accB (d : Bool) : List BkE → Int
  | [] => 0
  | x :: t => if x.p.down = d then accB d t + x.p.need d else mx (accB d t) (x.p.need d)
theorem accB_bd (d : Bool) : ∀ ys : List BkE, 0 ≤ accB d ys ∧ accB d ys ≤ 1000000000020 * ys.length
  | [] => by simp [accB]
  | x :: t => by
    have := accB_bd d t
    have nb := Pk.need_bdW x.ok d
    have m := mx_spec (accB d t) (x.p.need d)
    simp only [accB, List.length_cons]
    split <;> omega
def acc (d : Bool) (ys : List BkE) : Int := accB d ys.reverse
theorem acc_bd (d : Bool) (ys : List BkE) : 0 ≤ acc d ys ∧ acc d ys ≤ 1000000000020 * ys.length := by have := accB_bd d ys.reverse; rwa [List.length_reverse] at this
theorem acc_same {d : Bool} {ys : List BkE} {x : BkE} (h : x.p.down = d) : acc d (ys ++ [x]) = acc d ys + x.p.need d := by
  simp [acc, accB, h]
theorem acc_other {d : Bool} {ys : List BkE} {x : BkE} (h : ¬ x.p.down = d) : acc d (ys ++ [x]) = mx (acc d ys) (x.p.need d) := by
  simp only [acc, List.reverse_append, List.reverse_cons, List.reverse_nil, List.nil_append, List.cons_append, accB, if_neg h]
theorem accB_req {d : Bool} : ∀ {ys : List BkE} {L : List Pk}, ys.map BkE.p = L → accB d ys = reqD L d
  | [], L, h => by
    simp at h; subst h
    rw [reqD_nil]; rfl
  | x :: t, L, h => by
    simp at h
    subst h
    have ih := accB_req (d := d) (ys := t) rfl
    by_cases hd : x.p.down = d
    · rw [reqD_same hd, ← ih, accB, if_pos hd]
    · rw [reqD_other hd, ← ih, accB, if_neg hd]
theorem acc_req {d : Bool} {ys : List BkE} {L : List Pk} (h : ys.map BkE.p = L.reverse) : acc d ys = reqD L d := by
  refine accB_req ?_
  rw [List.map_reverse, h, List.reverse_reverse]
theorem isDown_b (p : Pk) (b : Bool) (h : p.down = b) (w : World) : Calls Tryz.prog 156 #[.agg #[.int .i64 p.w, .int .i64 p.h, .int .i64 p.s, .bool p.fx, .bool p.fy, .bool p.ex, .int .i64 p.an, .int .i64 p.px, .int .i64 p.py]] w fun e w' => e = .returned (.bool b) ∧ Below w.heap.size w w' := by rw [← h]; exact isDown_v p w
theorem bdr {W w' : World} (h : Below W.drew.heap.size W.drew w') : Below W.heap.size W w' := (Below.refl _ _).drew.trans h
theorem keepsFrom_below {B : Nat} {W W' : World} (h : Below W.heap.size W W') : KeepsFrom B W W' := ⟨h.size, fun k o _ hk _ => (h.block k (Array.getElem?_eq_some_iff.1 hk).1).trans hk⟩
theorem kpB_below {n0 Bs : Nat} {W W' : World} (h : Below W.heap.size W W') (h0 : n0 ≤ W.heap.size) (hs : Bs < W.heap.size) : KpB n0 Bs W W' := ⟨h.mono h0, h.block Bs hs⟩
theorem round_end {w W w2 : World} {B0 : Nat} {A : Option Addr} {c : Nat} {L : List Pk} {d : Bool} {pre : List BkE} {x : BkE} {v u : Int} {T1 T2 T3 : TypeId} (b2 : Below W.heap.size W w2) (bS : Boxed W (w.heap.size + 1) T1 (.int .i64 u)) (bD : Boxed W w.heap.size T2 (.bool d)) (bL : Boxed W (w.heap.size + 1 + 1) T3 (.slice A L.length c)) (hB : Below w.heap.size w W) (hl : w.heap.size ≤ W.heap.size) (hv : acc d (pre ++ [x]) = v) :
    KeepsFrom B0 W (w2.setCell ⟨w.heap.size + 1, 0, none⟩ (.int .i64 v)) ∧ KpB w.heap.size (w.heap.size + 1 + 1) W (w2.setCell ⟨w.heap.size + 1, 0, none⟩ (.int .i64 v)) ∧
      ((Boxed (w2.setCell ⟨w.heap.size + 1, 0, none⟩ (.int .i64 v)) (w.heap.size + 1) T1 (.int .i64 (acc d (pre ++ [x]))) ∧ (Boxed (w2.setCell ⟨w.heap.size + 1, 0, none⟩ (.int .i64 v)) w.heap.size T2 (.bool d) ∧ Boxed (w2.setCell ⟨w.heap.size + 1, 0, none⟩ (.int .i64 v)) (w.heap.size + 1 + 1) T3 (.slice A L.length c))) ∧
        Below w.heap.size w (w2.setCell ⟨w.heap.size + 1, 0, none⟩ (.int .i64 v))) := by
  have cS : Boxed w2 (w.heap.size + 1) T1 (.int .i64 u) := (b2.block _ bS.lt).trans bS
  have cD : Boxed w2 w.heap.size T2 (.bool d) := (b2.block _ bD.lt).trans bD
  have cL : Boxed w2 (w.heap.size + 1 + 1) T3 (.slice A L.length c) := (b2.block _ bL.lt).trans bL
  refine ⟨(keepsFrom_below b2).trans ((KeepsOthers.setCell _ _ _).from _), (kpB_below b2 hl bL.lt).trans ⟨(Below.refl _ _).setCell (p := ⟨w.heap.size + 1, 0, none⟩) (by simp) _, Below.heap_setCell _ ⟨w.heap.size + 1, 0, none⟩ _ _ (by simp)⟩, ⟨⟨by rw [hv]; exact cS.set _, cD.other (by omega) _, cL.other (by omega) _⟩, (hB.trans (b2.mono hl)).setCell (p := ⟨w.heap.size + 1, 0, none⟩) (by simp) _⟩⟩
set_option maxRecDepth 100000 in
theorem packRequest_w (A : Option Addr) (c : Nat) (L : List Pk) (d : Bool) (w : World) (h : PV w A L) (hok : ∀ p ∈ L, p.big) (h7 : L.length ≤ 10) :
    Calls Tryz.prog 193 #[.slice A L.length c, .bool d] w fun e W' => e = .returned (.int .i64 (reqD L d)) ∧ Below w.heap.size w W' := by
  have HOK := Lib.hid hok
  clear hok
  refine (callsIn_wide (n := 6)).1 ?_
  refine callsIn_of_wp_marks Tryz.func193 rfl trivial ?_ rfl
  simp only [Tryz.ntmps193, List.size_toArray, List.length_cons, List.length_nil, Nat.reduceAdd, Nat.reduceSub, Array.replicate_succ, Array.replicate_zero, List.push_toArray, List.append_toArray, List.nil_append, List.cons_append]
  gi_wp2_with (refine ⟨trivial, ?_⟩; gi_at_call 196; refine (backward_in Fence.wide _ trivial rfl _ _ _ _).mono ?_; rintro e w' ⟨rfl, rfl⟩)
  have bL := Boxed.new ((w.alloc (.cells #[.bool d] 4)).alloc (.cells #[.int .i64 0] 3)) 87 (.slice A L.length c)
  have bS := (Boxed.new (w.alloc (.cells #[.bool d] 4)) 3 (.int .i64 0)).alloc (.cells #[.slice A L.length c] 87)
  have bD := ((Boxed.new w 4 (.bool d)).alloc (.cells #[.int .i64 0] 3)).alloc (.cells #[.slice A L.length c] 87)
  simp only [World.size_alloc] at bL bS bD
  have hB0 : Below w.heap.size w (((w.alloc (.cells #[.bool d] 4)).alloc (.cells #[.int .i64 0] 3)).alloc (.cells #[.slice A L.length c] 87)) := (((Below.refl _ w).alloc (Nat.le_refl _) _).alloc (by simp) _).alloc (by simp; omega) _
  have hsz : (((w.alloc (.cells #[.bool d] 4)).alloc (.cells #[.int .i64 0] 3)).alloc (.cells #[.slice A L.length c] 87)).heap.size = w.heap.size + 3 := by simp
  obtain ⟨W0, hW0⟩ : ∃ W0, ((w.alloc (.cells #[.bool d] 4)).alloc (.cells #[.int .i64 0] 3)).alloc (.cells #[.slice A L.length c] 87) = W0 := ⟨_, rfl⟩
  rw [hW0] at bL bS bD hB0 hsz ⊢
  clear hW0
  have hp0 : PVn w.heap.size W0 A L := PVn.below (fun h0 => let ⟨b, off, e, hl, hp⟩ := h.cells h0; ⟨b, off, e, hl, hp⟩) hB0
  refine wpIn_rangeFunc_ownH rfl (by omega) (gf := 202) (lb := #[.pointer (some ⟨w.heap.size + 1 + 1, 0, none⟩)]) rfl trivial (enters_of Tryz.func202 (by kernel_rfl) rfl)
    (bk_stops Fence.wide _ trivial rfl (by omega) (w.heap.size + 1 + 1) w.heap.size A c L h7 HOK.out W0 (by omega) (by omega) bL.cell hp0) KpB.trans
    (fun W l o o' hl ho hc hw => ⟨belowK_b (w := W0) (by omega) W l o o' hl ho hc hw, World.putObj_heap_other (by omega)⟩) (Below.refl _ _) (fun _ => rfl)
    (fun pre W => (Boxed W (w.heap.size + 1) 3 (.int .i64 (acc d pre)) ∧ (Boxed W w.heap.size 4 (.bool d) ∧ Boxed W (w.heap.size + 1 + 1) 87 (.slice A L.length c))) ∧ Below w.heap.size w W)
    (fun _ _ _ => False)
    (OwnFrom.and (OwnFrom.and (Own.from (boxed_own _ _ _) _) (OwnFrom.and (Own.from (boxed_own _ _ _) _) (Own.from (boxed_own _ _ _) _))) (ownFrom_below (Nat.le_refl _) (by omega)))
    (fun _ _ _ _ _ hs _ _ => hs)
    ⟨⟨bS, bD, bL⟩, hB0⟩
    (fun x a' W => ∃ Bx, w.heap.size + 2 < Bx ∧ W.heap[Bx]? = some (.cells #[.int .i64 x.p.w, .int .i64 x.p.h, .int .i64 x.p.s, .bool x.p.fx, .bool x.p.fy, .bool x.p.ex, .int .i64 x.p.an, .int .i64 x.p.px, .int .i64 x.p.py] 80 (0, 0)) ∧ a' = { tmps := #[.slice A L.length c, .bool d, undef, .pointer (some ⟨w.heap.size, 0, none⟩), .int .i64 0, .pointer (some ⟨w.heap.size + 1, 0, none⟩), undef, .pointer (some ⟨Bx, 0, none⟩), .slice A L.length c, .func (.func 202) #[] #[.pointer (some ⟨w.heap.size + 1 + 1, 0, none⟩)], .int .i64 x.i, .agg #[.int .i64 x.p.w, .int .i64 x.p.h, .int .i64 x.p.s, .bool x.p.fx, .bool x.p.fy, .bool x.p.ex, .int .i64 x.p.an, .int .i64 x.p.px, .int .i64 x.p.py], undef, undef, undef, undef, undef, undef, undef, undef, undef, undef, undef, undef, undef, undef, undef], defers := [] })
    (fun x a' _ X Y row hs hg hr => by
      obtain ⟨Bx, h1, h2, h3⟩ := hs
      exact ⟨Bx, h1, (hg.block Bx (Array.getElem?_eq_some_iff.1 h2).1 (fun e => by
        obtain ⟨_, o, ho, hoc⟩ := hr Bx e.symm
        rw [h2] at ho
        obtain rfl := Option.some.inj ho
        simp [Obj.isCells] at hoc)).trans h2, h3⟩)
    ?assign ?body ?done ?stop
  case assign =>
    rintro l pre x W K ⟨⟨bS1, bD1, bL1⟩, hB1⟩ hK
    have hlt2 := bL1.lt
    simp only [encB]
    gi_wp2
    refine hK _ _ ((KeepsOthers.alloc _ _).from _) ⟨(Below.refl _ W).alloc hB1.size _, Below.heap_alloc _ _ _ (by omega)⟩ ⟨⟨bS1.alloc _, bD1.alloc _, bL1.alloc _⟩, hB1.alloc hB1.size _⟩ ⟨W.heap.size, by omega, heap_new _ _, rfl⟩
  case body =>
    rintro l pre x a' W hl ⟨r, hr⟩ ⟨⟨bS1, bD1, bL1⟩, hB1⟩ ⟨Bx, hBx, hX, rfl⟩ hlt
    have cS := bS1.cell
    have fS := bS1.frozen
    have cD := bD1.cell
    have sS := bS1.lt
    have sD := bD1.lt
    have sL := bL1.lt
    have sX : Bx < W.heap.size := (Array.getElem?_eq_some_iff.1 hX).1
    obtain ⟨a1, a2⟩ := acc_bd d pre
    have nb := Pk.need_bdW x.ok d
    obtain ⟨c0, c1, c2, c3, c4, c5, c6, c7, c8⟩ := b9c hX
    have hmx : Tryz.prog.follows .mixedOrders = true := by kernel_rfl
    have hn1 : 1 ≤ 6 - 1 - 1 := by omega
    have hl0 : w.heap.size ≤ W.heap.size := hB1.size
    cases d <;> cases hdn : x.p.down
    · have hacc := acc_same (ys := pre) (x := x) (d := false) hdn
      have HA := Lib.hid hacc
      clear hacc
      gi_wp2
      gi_region_with_o (refine ⟨trivial, ?_⟩; gi_at_call 156; refine (CallsIn.inRound l (callsIn_wide.2 (isDown_b x.p false hdn _))).mono ?_; rintro e w1 ⟨rfl, hb1⟩; have b1 := bdr hb1; have kD := (b1.cell (p := ⟨w.heap.size, 0, none⟩) sD).trans cD; have kS := (b1.cell (p := ⟨w.heap.size + 1, 0, none⟩) sS).trans cS; have kX := (b1.block Bx sX).trans hX; obtain ⟨k0, k1, k2, k3, k4, k5, k6, k7, k8⟩ := b9c kX; have z1 := b1.size; have tS := Nat.lt_of_lt_of_le sS z1; have tD := Nat.lt_of_lt_of_le sD z1)
      all_goals
        gi_wp2
        gi_region_with_o (refine ⟨trivial, ?_⟩; gi_at_call 197; refine (CallsIn.inRound l (callsIn_wide.2 (need_w x.p false _ x.ok))).mono ?_; rintro e w2 ⟨rfl, hb2⟩; have b2 := b1.trans ((bdr hb2).mono z1); have jD := (b2.cell (p := ⟨w.heap.size, 0, none⟩) sD).trans cD; have jS := (b2.cell (p := ⟨w.heap.size + 1, 0, none⟩) sS).trans cS; have fS2 := (b2.frozen (p := ⟨w.heap.size + 1, 0, none⟩) sS).trans fS; clear kS kD k0 k1 k2 k3 k4 k5 k6 k7 k8)
        all_goals
          gi_wp2
          all_goals (try go_bits)
          all_goals exact round_end b2 bS1 bD1 bL1 hB1 hl0 HA.out
    · have hacc := acc_other (ys := pre) (x := x) (d := false) (by simp [hdn])
      have HA := Lib.hid hacc
      clear hacc
      gi_wp2
      gi_region_with_o (refine ⟨trivial, ?_⟩; gi_at_call 156; refine (CallsIn.inRound l (callsIn_wide.2 (isDown_b x.p true hdn _))).mono ?_; rintro e w1 ⟨rfl, hb1⟩; have b1 := bdr hb1; have kD := (b1.cell (p := ⟨w.heap.size, 0, none⟩) sD).trans cD; have kS := (b1.cell (p := ⟨w.heap.size + 1, 0, none⟩) sS).trans cS; have kX := (b1.block Bx sX).trans hX; obtain ⟨k0, k1, k2, k3, k4, k5, k6, k7, k8⟩ := b9c kX; have z1 := b1.size; have tS := Nat.lt_of_lt_of_le sS z1; have tD := Nat.lt_of_lt_of_le sD z1)
      all_goals
        gi_wp2
        gi_region_with_o (refine ⟨trivial, ?_⟩; gi_at_call 197; refine (CallsIn.inRound l (callsIn_wide.2 (need_w x.p false _ x.ok))).mono ?_; rintro e w2 ⟨rfl, hb2⟩; have b2 := b1.trans ((bdr hb2).mono z1); have jD := (b2.cell (p := ⟨w.heap.size, 0, none⟩) sD).trans cD; have jS := (b2.cell (p := ⟨w.heap.size + 1, 0, none⟩) sS).trans cS; have fS2 := (b2.frozen (p := ⟨w.heap.size + 1, 0, none⟩) sS).trans fS; clear kS kD k0 k1 k2 k3 k4 k5 k6 k7 k8)
        all_goals
          gi_wp2
          all_goals (try go_bits)
          all_goals exact round_end b2 bS1 bD1 bL1 hB1 hl0 HA.out
    · have hacc := acc_other (ys := pre) (x := x) (d := true) (by simp [hdn])
      have HA := Lib.hid hacc
      clear hacc
      gi_wp2
      gi_region_with_o (refine ⟨trivial, ?_⟩; gi_at_call 156; refine (CallsIn.inRound l (callsIn_wide.2 (isDown_b x.p false hdn _))).mono ?_; rintro e w1 ⟨rfl, hb1⟩; have b1 := bdr hb1; have kD := (b1.cell (p := ⟨w.heap.size, 0, none⟩) sD).trans cD; have kS := (b1.cell (p := ⟨w.heap.size + 1, 0, none⟩) sS).trans cS; have kX := (b1.block Bx sX).trans hX; obtain ⟨k0, k1, k2, k3, k4, k5, k6, k7, k8⟩ := b9c kX; have z1 := b1.size; have tS := Nat.lt_of_lt_of_le sS z1; have tD := Nat.lt_of_lt_of_le sD z1)
      all_goals
        gi_wp2
        gi_region_with_o (refine ⟨trivial, ?_⟩; gi_at_call 197; refine (CallsIn.inRound l (callsIn_wide.2 (need_w x.p true _ x.ok))).mono ?_; rintro e w2 ⟨rfl, hb2⟩; have b2 := b1.trans ((bdr hb2).mono z1); have jD := (b2.cell (p := ⟨w.heap.size, 0, none⟩) sD).trans cD; have jS := (b2.cell (p := ⟨w.heap.size + 1, 0, none⟩) sS).trans cS; have fS2 := (b2.frozen (p := ⟨w.heap.size + 1, 0, none⟩) sS).trans fS; clear kS kD k0 k1 k2 k3 k4 k5 k6 k7 k8)
        all_goals
          gi_wp2
          all_goals (try go_bits)
          all_goals exact round_end b2 bS1 bD1 bL1 hB1 hl0 HA.out
    · have hacc := acc_same (ys := pre) (x := x) (d := true) hdn
      have HA := Lib.hid hacc
      clear hacc
      gi_wp2
      gi_region_with_o (refine ⟨trivial, ?_⟩; gi_at_call 156; refine (CallsIn.inRound l (callsIn_wide.2 (isDown_b x.p true hdn _))).mono ?_; rintro e w1 ⟨rfl, hb1⟩; have b1 := bdr hb1; have kD := (b1.cell (p := ⟨w.heap.size, 0, none⟩) sD).trans cD; have kS := (b1.cell (p := ⟨w.heap.size + 1, 0, none⟩) sS).trans cS; have kX := (b1.block Bx sX).trans hX; obtain ⟨k0, k1, k2, k3, k4, k5, k6, k7, k8⟩ := b9c kX; have z1 := b1.size; have tS := Nat.lt_of_lt_of_le sS z1; have tD := Nat.lt_of_lt_of_le sD z1)
      all_goals
        gi_wp2
        gi_region_with_o (refine ⟨trivial, ?_⟩; gi_at_call 197; refine (CallsIn.inRound l (callsIn_wide.2 (need_w x.p true _ x.ok))).mono ?_; rintro e w2 ⟨rfl, hb2⟩; have b2 := b1.trans ((bdr hb2).mono z1); have jD := (b2.cell (p := ⟨w.heap.size, 0, none⟩) sD).trans cD; have jS := (b2.cell (p := ⟨w.heap.size + 1, 0, none⟩) sS).trans cS; have fS2 := (b2.frozen (p := ⟨w.heap.size + 1, 0, none⟩) sS).trans fS; clear kS kD k0 k1 k2 k3 k4 k5 k6 k7 k8)
        all_goals
          gi_wp2
          all_goals (try go_bits)
          all_goals exact round_end b2 bS1 bD1 bL1 hB1 hl0 HA.out
  case done =>
    rintro D ys W hD hys ⟨⟨bS1, bD1, bL1⟩, hB1⟩ hK
    have cS := bS1.cell
    rw [acc_req hys] at cS
    gi_wp2
    refine ⟨by simp, .inl ⟨_, _, rfl, run_takeDeferred hK, ?_⟩⟩
    exact ⟨_, results_tmp rfl _ _ _, rfl, hB1.trans (belowK_b (w := w) (Nat.le_refl _) W D _ _ (by omega) hK rfl rfl)⟩
  case stop =>
    rintro D c pre W _ _ h _
    exact h.elim
theorem packRequest_v (A : Option Addr) (c : Nat) (L : List Pk) (d : Bool) (w : World) (h : PV w A L) (hL : vpsB L = true) :
    Calls Tryz.prog 193 #[.slice A L.length c, .bool d] w fun e W' => e = .returned (.int .i64 (reqD L d)) ∧ Below w.heap.size w W' := by
  obtain ⟨hok, h7⟩ := vpsB_iff.1 hL
  exact packRequest_w A c L d w h (fun p hp => Pk.ok_big (hok p hp)) (by omega)
end Go.Proofs.YtgdkionmeacalaaGreat
end
section
/- A region that draws its order: an invariant of the world that every operation keeps, and for each operation a property of its value that no other operation breaks: every order serves. -/
namespace Go.Proofs.YtgdkionmeacalaaGreat
open Go Go.RowKit
set_option linter.unusedVariables false
section
variable {P : Program}
def givesUpon (P : Program) (K : Value → World → Prop) : Result Next → Prop
  | .ok (.value v) w' => K v w'
  | .ok .skip w' => K undef w'
  | .ok (.enter f args) w' => Calls P f args w' fun e w'' => ∃ v, e = .returned v ∧ K v w''
  | _ => False
theorem givesUpon_value (K : Value → World → Prop) (v : Value) (w : World) : givesUpon P K (.ok (.value v) w) = K v w := rfl
theorem givesUpon_skip (K : Value → World → Prop) (w : World) : givesUpon P K (.ok .skip w) = K undef w := rfl
theorem givesUpon_enter (K : Value → World → Prop) (f : FuncId) (args : Array Value) (w : World) : givesUpon P K (.ok (.enter f args) w) = Calls P f args w fun e w'' => ∃ v, e = .returned v ∧ K v w'' := rfl
/-- which operation fills this temporary -/
def dstIdx (t : Tmp) : List Oper → Nat → Option Nat
  | [], _ => none
  | o :: r, k => if o.dst = some t then some k else dstIdx t r (k + 1)
theorem dstIdx_none {t : Tmp} : ∀ {l : List Oper} {k : Nat}, dstIdx t l k = none → ∀ o ∈ l, o.dst ≠ some t
  | [], _, _, _, h => by cases h
  | x :: r, k, h, o, ho => by
    unfold dstIdx at h
    split at h
    · cases h
    · rename_i hne
      rcases List.mem_cons.1 ho with rfl | ho
      · exact hne
      · exact dstIdx_none h o ho
theorem dstIdx_some {t : Tmp} : ∀ {l : List Oper} {k j : Nat}, dstIdx t l k = some j → k ≤ j ∧ ∃ o, l[j - k]? = some o ∧ o.dst = some t
  | [], _, _, h => by cases h
  | x :: r, k, j, h => by
    unfold dstIdx at h
    split at h
    · rename_i he
      injection h with h
      subst h
      exact ⟨Nat.le_refl _, x, by simp, he⟩
    · obtain ⟨h1, o, h2, h3⟩ := dstIdx_some h
      refine ⟨by omega, o, ?_, h3⟩
      rw [show j - k = (j - (k + 1)) + 1 from by omega]
      simpa using h2
def tv (a : Act) (t : Tmp) : Value := a.tmps.getD t undef
/-- what an operation may lean on: the values of the temporaries that it reads -/
def look (ops : List Oper) (T : Nat → Value → World → Prop) (a0 a : Act) (w : World) : List Tmp → Prop → Prop
  | [], G => G
  | t :: r, G => (match dstIdx t ops 0 with | some j => T j (tv a t) w | none => tv a t = tv a0 t) → look ops T a0 a w r G
def opOK (P : Program) (ops : List Oper) (T : Nat → Value → World → Prop) (R : World → World → Prop) (I : Nat → World → Prop) (a0 : Act) (w0 : World) (k : Nat) (o : Oper) : Prop :=
  ∀ (m : Nat) (a : Act) (w : World), m < ops.length → R w0 w → I m w →
    look ops T a0 a w (o.looksAt ops.toArray)
      (match o.guard with
       | none => givesUpon P (fun v w' => T k v w' ∧ R w w' ∧ I (m + 1) w') ((execOp a.eval o).run P w)
       | some _ => (Region.wanted o (yielded ops.toArray a.tmps) = true → givesUpon P (fun v w' => T k v w' ∧ R w w' ∧ I (m + 1) w') ((execOp a.eval o).run P w)) ∧
          (Region.wanted o (yielded ops.toArray a.tmps) = false → T k undef w ∧ I (m + 1) w))
def opsOK (P : Program) (ops : List Oper) (T : Nat → Value → World → Prop) (R : World → World → Prop) (I : Nat → World → Prop) (a0 : Act) (w0 : World) : List Oper → Nat → Prop
  | [], _ => True
  | o :: r, k => opOK P ops T R I a0 w0 k o ∧ opsOK P ops T R I a0 w0 r (k + 1)
def finP (T : Nat → Value → World → Prop) (w : World) (F : Act → Prop) : List Oper → Nat → Act → Prop
  | [], _, a => F a
  | o :: r, k, a => match o.dst with
    | none => finP T w F r (k + 1) a
    | some d => ∀ v, T k v w → finP T w F r (k + 1) (a.put (some d) v)
/-- the form of the region: no select, every edge goes back, no temporary is filled twice, whoever reads a temporary of the region waits for it -/
def rgB (l : List Oper) (size : Nat) : Bool :=
  Region.noSelect l.toArray &&
  ((List.range l.length).all fun i => match l[i]? with
    | none => true
    | some o => (o.after.toList.all fun e => decide (e.on < i)) &&
      (o.dst.all fun d => decide (d < size) && dstIdx d l 0 == some i) &&
      ((o.looksAt l.toArray).all fun t => match dstIdx t l 0 with
        | none => true
        | some j => o.after.toList.any fun e => e.on == j && Region.binds .any e))
def cntF (f : Nat → Bool) : Nat → Nat
  | 0 => 0
  | n + 1 => cntF f n + (if f n then 0 else 1)
theorem cntF_zero {f : Nat → Bool} : ∀ {n : Nat}, cntF f n = 0 → ∀ i, i < n → f i = true
  | 0, _, i, hi => by omega
  | n + 1, h, i, hi => by
    simp only [cntF] at h
    by_cases e : i = n
    · subst e; by_cases hf : f i = true
      · exact hf
      · simp [hf] at h
    · exact cntF_zero (n := n) (by omega) i (by omega)
theorem cntF_same {f g : Nat → Bool} : ∀ {n : Nat}, (∀ i, i < n → f i = g i) → cntF f n = cntF g n
  | 0, _ => rfl
  | n + 1, h => by simp only [cntF]; rw [cntF_same fun i hi => h i (by omega), h n (by omega)]
theorem cntF_set {f g : Nat → Bool} {i : Nat} (hf : f i = false) (hg : g i = true) (h : ∀ j, j ≠ i → g j = f j) : ∀ {n : Nat}, i < n → cntF f n = cntF g n + 1
  | 0, hi => by omega
  | n + 1, hi => by
    simp only [cntF]
    by_cases e : i = n
    · subst e
      rw [cntF_same (f := f) (g := g) fun j hj => (h j (by omega)).symm]
      simp [hf, hg]
    · rw [cntF_set hf hg h (n := n) (by omega), h n (by omega)]; omega
def vof (a : Act) : Option Tmp → Value
  | none => undef
  | some d => tv a d
def RJ (l : List Oper) (T : Nat → Value → World → Prop) (R : World → World → Prop) (I : Nat → World → Prop) (a0 : Act) (w0 : World) (m : Nat) (listed : Array Bool) (a : Act) (w : World) : Prop :=
  R w0 w ∧ I m w ∧ a.defers = a0.defers ∧ a.tmps.size = a0.tmps.size ∧
  (∀ t, (∀ j o, l[j]? = some o → listed.getD j false = true → o.dst ≠ some t) → a.tmps[t]? = a0.tmps[t]?) ∧
  (∀ j o, l[j]? = some o → listed.getD j false = true → o.dst ≠ none → T j (vof a o.dst) w)
theorem look_of {ops : List Oper} {T : Nat → Value → World → Prop} {a0 a : Act} {w : World} {G : Prop} : ∀ {ts : List Tmp}, (∀ t ∈ ts, match dstIdx t ops 0 with | some j => T j (tv a t) w | none => tv a t = tv a0 t) → look ops T a0 a w ts G → G
  | [], _, h => h
  | t :: r, hts, h => look_of (fun x hx => hts x (List.mem_cons_of_mem _ hx)) (h (hts t List.mem_cons_self))
theorem opsOK_at {ops : List Oper} {T : Nat → Value → World → Prop} {R : World → World → Prop} {I : Nat → World → Prop} {a0 : Act} {w0 : World} : ∀ {l : List Oper} {k : Nat}, opsOK P ops T R I a0 w0 l k → ∀ {i : Nat} {o : Oper}, l[i]? = some o → opOK P ops T R I a0 w0 (k + i) o
  | [], _, _, i, o, h => by simp at h
  | x :: r, k, h, 0, o, ho => by
    obtain rfl : x = o := by simpa using ho
    exact h.1
  | x :: r, k, h, i + 1, o, ho => by
    have := opsOK_at (k := k + 1) h.2 (i := i) (o := o) (by simpa using ho)
    rwa [show k + (i + 1) = k + 1 + i from by omega]
theorem put_size (a : Act) (d : Option Tmp) (v : Value) : (a.put d v).tmps.size = a.tmps.size := by cases d <;> simp [Act.put]
theorem put_defers' (a : Act) (d : Option Tmp) (v : Value) : (a.put d v).defers = a.defers := by cases d <;> rfl
theorem put_ne (a : Act) (d : Option Tmp) (v : Value) {t : Nat} (h : d ≠ some t) : (a.put d v).tmps[t]? = a.tmps[t]? := by
  cases d with
  | none => rfl
  | some d => exact Array.getElem?_setIfInBounds_ne (fun e => h (by rw [e]))
theorem put_same (a : Act) (d : Tmp) (v : Value) (h : d < a.tmps.size) : (a.put (some d) v).tmps[d]? = some v := by
  simp [Act.put, h]
theorem tv_of {a b : Act} {t : Tmp} (h : a.tmps[t]? = b.tmps[t]?) : tv a t = tv b t := by
  unfold tv; rw [Array.getD_eq_getD_getElem?, Array.getD_eq_getD_getElem?, h]
theorem finP_to {T : Nat → Value → World → Prop} {w : World} {F : Act → Prop} {a' : Act} : ∀ {l : List Oper} {k : Nat} {b : Act}, b.defers = a'.defers → b.tmps.size = a'.tmps.size →
    (∀ t, (∀ o ∈ l, o.dst ≠ some t) → b.tmps[t]? = a'.tmps[t]?) → (∀ j o, l[j]? = some o → o.dst ≠ none → T (k + j) (vof a' o.dst) w) → finP T w F l k b → F a'
  | [], k, b, hd, hs, hb, hT, h => by
    have e : b = a' := by
      obtain ⟨bt, bd⟩ := b
      obtain ⟨at', ad⟩ := a'
      simp only at hd hs hb
      subst hd
      congr 1
      exact Array.ext_getElem? fun t => hb t (by simp)
    rw [← e]; exact h
  | o :: r, k, b, hd, hs, hb, hT, h => by
    unfold finP at h
    cases ho : o.dst with
    | none =>
      rw [ho] at h
      refine finP_to hd hs (fun t ht => hb t (fun x hx => ?_)) (fun j x hx hn => ?_) h
      · rcases List.mem_cons.1 hx with rfl | hx
        · rw [ho]; simp
        · exact ht x hx
      · have := hT (j + 1) x (by simpa using hx) hn
        rwa [show k + (j + 1) = k + 1 + j from by omega] at this
    | some d =>
      rw [ho] at h
      have h0 := hT 0 o (by simp) (by rw [ho]; simp)
      rw [ho] at h0
      have h1 := h (vof a' (some d)) h0
      refine finP_to (by rw [put_defers']; exact hd) (by rw [put_size]; exact hs) (fun t ht => ?_) (fun j x hx hn => ?_) h1
      · by_cases e : d = t
        · subst e
          rcases Nat.lt_or_ge d b.tmps.size with hlt | hge
          · rw [put_same _ _ _ hlt]
            simp only [vof, tv]
            rw [Array.getD_eq_getD_getElem?, Array.getElem?_eq_getElem (by omega)]
            rfl
          · rw [Array.getElem?_eq_none (by rw [put_size]; omega), Array.getElem?_eq_none (by omega)]
        · rw [put_ne _ _ _ (by simpa using e)]
          refine hb t fun x hx => ?_
          rcases List.mem_cons.1 hx with rfl | hx
          · rw [ho]; simpa using e
          · exact ht x hx
      · have := hT (j + 1) x (by simpa using hx) hn
        rwa [show k + (j + 1) = k + 1 + j from by omega] at this
theorem wp_of_gives {o : Oper} {a : Act} {w : World} {K : Value → World → Prop} {N : Act → World → Prop} {Q : Exit → Act → World → Prop} (h : givesUpon P K ((execOp a.eval o).run P w)) (hN : ∀ v w', K v w' → N (a.put o.dst v) w') : o.wp P a w N Q := by
  unfold Oper.wp
  generalize (execOp a.eval o).run P w = r at *
  cases r with
  | ok n w' =>
    cases n <;> simp only [givesUpon] at h <;> simp only [Oper.upon]
    case value u => exact hN _ _ h
    case skip => exact hN _ _ h
    case enter f args => exact h.mono fun e w'' ⟨v, he, hk⟩ => by subst he; exact hN _ _ hk
  | halt x w' => simp only [givesUpon] at h
theorem wp_region_rg {id : Nat} {l : List Oper} {Q : Exit → Act → World → Prop} {a0 : Act} {w : World} (T : Nat → Value → World → Prop) (R : World → World → Prop) (I : Nat → World → Prop)
    (hm : P.follows .mixedOrders = true) (hB : rgB l a0.tmps.size = true) (hRr : ∀ a, R a a) (hRt : ∀ a b c, R a b → R b c → R a c) (hTs : ∀ k v a b, T k v a → R a b → T k v b) (hI0 : I 0 w.drew)
    (hops : opsOK P l T R I a0 w.drew l 0) (hfin : ∀ w', R w.drew w' → I l.length w' → finP T w' (fun a' => Q .normal a' w') l 0 a0) : (Code.region id l.toArray true).wp P Q a0 w := by
  simp only [rgB, Bool.and_eq_true] at hB
  obtain ⟨hns, hB⟩ := hB
  have hB' : ∀ (i : Nat) (o : Oper), l[i]? = some o → (∀ e ∈ o.after, e.on < i) ∧ (∀ d, o.dst = some d → d < a0.tmps.size ∧ dstIdx d l 0 = some i) ∧ (∀ t ∈ o.looksAt l.toArray, ∀ j, dstIdx t l 0 = some j → ∃ e ∈ o.after, e.on = j ∧ Region.binds .any e = true) := by
    intro i o ho
    have hlt := (List.getElem?_eq_some_iff.1 ho).1
    have h1 := List.all_eq_true.1 hB i (List.mem_range.2 hlt)
    simp only [ho, Bool.and_eq_true] at h1
    obtain ⟨⟨h1, h2⟩, h3⟩ := h1
    refine ⟨fun e he => by have := List.all_eq_true.1 h1 e (by simpa using he); simpa using this, fun d hd => ?_, fun t ht j hj => ?_⟩
    · rw [hd] at h2
      simp only [Option.all_some, Bool.and_eq_true, decide_eq_true_eq, beq_iff_eq] at h2
      exact h2
    · have h4 := List.all_eq_true.1 h3 t ht
      rw [hj] at h4
      obtain ⟨e, he, h5⟩ := List.any_eq_true.1 h4
      simp only [Bool.and_eq_true, beq_iff_eq] at h5
      exact ⟨e, by simpa using he, h5⟩
  have hdist : ∀ (i : Nat) (o : Oper) (j : Nat) (p : Oper), l[i]? = some o → l[j]? = some p → i ≠ j → ∀ d, o.dst = some d → p.dst ≠ some d := by
    intro i o j p ho hp hij d hd hpd
    have h1 := ((hB' i o ho).2.1 d hd).2
    rw [((hB' j p hp).2.1 d hpd).2] at h1
    injection h1 with h1
    exact hij h1.symm
  have main : ∀ (fuel m : Nat) (listed : Array Bool) (a : Act) (w' : World), cntF (fun i => listed.getD i true) l.length = fuel → listed.size = l.length → fuel + m = l.length → RJ l T R I a0 w.drew m listed a w' →
      wpAny P .any l.toArray Q fuel listed a w' := by
    intro fuel
    have hdone : ∀ (m : Nat) (listed : Array Bool) (a : Act) (w' : World), m = l.length → (∀ i, i < l.length → listed.getD i false = true) → RJ l T R I a0 w.drew m listed a w' → Q .normal a w' := by
      rintro m listed a w' rfl hall ⟨hR, hI, hd, hs, ht, hT⟩
      refine finP_to (T := T) (w := w') (F := fun a' => Q .normal a' w') (l := l) (k := 0) (b := a0) hd.symm hs.symm (fun t h => ?_) (fun j o ho hn => ?_) (hfin w' hR hI)
      · exact (ht t fun j o ho _ => h o (List.mem_of_getElem? ho)).symm
      · rw [Nat.zero_add]; exact hT j o ho (hall j (List.getElem?_eq_some_iff.1 ho).1) hn
    have hnil : ∀ (listed : Array Bool), listed.size = l.length → Region.ready .any l.toArray listed = [] → ∀ i, i < l.length → listed.getD i false = true := by
      intro listed hls hr i
      induction i using Nat.strongRecOn with
      | ind i ih =>
        intro hi
        by_cases hl : listed.getD i false = true
        · exact hl
        · exfalso
          have ho : l[i]? = some l[i] := List.getElem?_eq_getElem hi
          have hmem : i ∈ Region.ready .any l.toArray listed := mem_ready.2 ⟨by
            rw [Array.getD_eq_getD_getElem?, Array.getElem?_eq_getElem (by omega)] at *
            simp only [Option.getD_some, Bool.not_eq_true] at *
            exact hl, l[i], by simp, fun e he _ => ih e.on ((hB' i _ ho).1 e he) (by have := (hB' i _ ho).1 e he; omega)⟩
          rw [hr] at hmem
          cases hmem
    induction fuel with
    | zero =>
      intro m listed a w' hc hls hm' hJ
      have hall : ∀ i, i < l.length → listed.getD i false = true := fun i hi => by
        have := cntF_zero hc i hi
        rw [Array.getD_eq_getD_getElem?, Array.getElem?_eq_getElem (by omega)] at *
        simpa using this
      refine ⟨?_, hdone m listed a w' (by omega) hall hJ⟩
      cases hr : Region.ready .any l.toArray listed with
      | nil => rfl
      | cons x xs =>
        exfalso
        obtain ⟨h0, o, ho, _⟩ := mem_ready.1 (show x ∈ Region.ready .any l.toArray listed by rw [hr]; exact List.mem_cons_self)
        have hlt : x < l.length := by have := (Array.getElem?_eq_some_iff.1 ho).1; simpa using this
        have := hall x hlt
        rw [Array.getD_eq_getD_getElem?, Array.getElem?_eq_getElem (by omega)] at *
        simp at h0 this
        rw [h0] at this
        cases this
    | succ fuel ih =>
      intro m listed a w' hc hls hm' hJ
      refine ⟨fun hr => ?_, fun i hi => ?_⟩
      · exfalso
        have hall := hnil listed hls hr
        have : cntF (fun i => listed.getD i true) l.length = 0 := by
          rw [cntF_same (g := fun _ => true) (fun i hi => by
            have := hall i hi
            rw [Array.getD_eq_getD_getElem?, Array.getElem?_eq_getElem (by omega)] at *
            simpa using this)]
          clear hc hm' hls
          induction l.length with
          | zero => rfl
          | succ n ihn => simp [cntF, ihn]
        omega
      · obtain ⟨h0, o, ho', hall⟩ := mem_ready.1 hi
        have ho : l[i]? = some o := by simpa using ho'
        have hlt : i < l.length := (List.getElem?_eq_some_iff.1 ho).1
        obtain ⟨hR, hI, hd, hs, ht, hT⟩ := hJ
        obtain ⟨b1, b2, b3⟩ := hB' i o ho
        have hlook : ∀ t ∈ o.looksAt l.toArray, match dstIdx t l 0 with | some j => T j (tv a t) w' | none => tv a t = tv a0 t := by
          intro t htm
          cases hj : dstIdx t l 0 with
          | none =>
            refine tv_of (ht t fun j p hp _ => dstIdx_none hj p (List.mem_of_getElem? hp))
          | some j =>
            obtain ⟨e, he, rfl, hb⟩ := b3 t htm j hj
            obtain ⟨_, p, hp, hpd⟩ := dstIdx_some hj
            have := hT e.on p (by simpa using hp) (hall e he hb) (by rw [hpd]; simp)
            rw [hpd] at this
            exact this
        have hop := look_of hlook (opsOK_at hops ho m a w' (by omega) hR hI)
        rw [Nat.zero_add] at hop
        have hget : ∀ d, (listed.setIfInBounds i true).getD i d = true := fun d => by
          rw [Array.getD_eq_getD_getElem?, Array.getElem?_setIfInBounds_self_of_lt (by omega)]; rfl
        have next : ∀ v w1, T i v w1 → R w' w1 → I (m + 1) w1 → wpAny P .any l.toArray Q fuel (listed.setIfInBounds i true) (a.put o.dst v) w1 := by
          intro v w1 hTv hR1 hI1
          refine ih (m + 1) _ _ _ ?_ (by simpa using hls) (by omega) ⟨hRt _ _ _ hR hR1, hI1, (put_defers' _ _ _).trans hd, (put_size _ _ _).trans hs, fun t h => ?_, fun j p hp hl hn => ?_⟩
          · have := cntF_set (f := fun i => listed.getD i true) (g := fun j => (listed.setIfInBounds i true).getD j true) (i := i) h0 (hget true) (fun j hj => getD_set_ne true (Ne.symm hj)) hlt
            omega
          · have hne : o.dst ≠ some t := h i o ho (hget false)
            rw [put_ne _ _ _ hne]
            exact ht t fun j p hp hl => h j p hp (getD_set_true hl)
          · by_cases e : i = j
            · subst e
              rw [ho] at hp
              obtain rfl := Option.some.inj hp
              cases hod : o.dst with
              | none => exact absurd hod hn
              | some d =>
                have : tv (a.put (some d) v) d = v := by
                  unfold tv
                  rw [Array.getD_eq_getD_getElem?, put_same _ _ _ (by rw [hs]; exact (b2 d hod).1)]
                  rfl
                simp only [vof]
                rw [this]
                exact hTv
            · rw [getD_set_ne false e] at hl
              have h2 := hTs j _ w' w1 (hT j p hp hl hn) hR1
              cases hpd : p.dst with
              | none => exact absurd hpd hn
              | some d =>
                rw [hpd] at h2
                simp only [vof] at h2 ⊢
                rw [show tv (a.put o.dst v) d = tv a d from tv_of (put_ne _ _ _ (fun hod => hdist i o j p ho hp e d hod hpd))]
                exact h2
        unfold wpOp
        simp only [ho']
        cases hg : o.guard with
        | none =>
          rw [hg] at hop
          rw [if_pos (by simp [Region.wanted, hg])]
          exact .inl (wp_of_gives hop fun v w1 ⟨h1, h2, h3⟩ => next v w1 h1 h2 h3)
        | some g =>
          rw [hg] at hop
          obtain ⟨g1, g2⟩ := hop
          split
          · rename_i hw
            exact .inl (wp_of_gives (g1 hw) fun v w1 ⟨h1, h2, h3⟩ => next v w1 h1 h2 h3)
          · rename_i hw
            obtain ⟨h1, h2⟩ := g2 (by simpa using hw)
            exact next undef w' h1 (hRr _) h2
  refine wp_region_any hm ?_
  refine main l.toArray.size 0 _ a0 w.drew ?_ (by simp) (by simp) ⟨hRr _, hI0, rfl, rfl, fun t _ => rfl, fun j o ho hl => ?_⟩
  · have : ∀ n, n ≤ l.length → cntF (fun i => (Array.replicate l.toArray.size false).getD i true) n = n := by
      intro n
      induction n with
      | zero => intro _; rfl
      | succ n ihn =>
        intro hn
        simp only [cntF]
        rw [ihn (by omega)]
        have : (Array.replicate l.toArray.size false).getD n true = false := by
          rw [Array.getD_eq_getD_getElem?, Array.getElem?_replicate, if_pos (by simp; omega)]; rfl
        rw [if_neg (by rw [this]; decide)]
    simpa using this l.length (Nat.le_refl _)
  · exfalso
    rw [Array.getD_eq_getD_getElem?, Array.getElem?_replicate] at hl
    split at hl <;> simp at hl
/-- what an operation leans on, written out: which temporaries, filled by which operations -/
def lookD (T : Nat → Value → World → Prop) (a0 a : Act) (w : World) : List (Tmp × Option Nat) → Prop → Prop
  | [], G => G
  | (t, some j) :: r, G => T j (a.eval (.tmp t)) w → lookD T a0 a w r G
  | (t, none) :: r, G => a.eval (.tmp t) = a0.eval (.tmp t) → lookD T a0 a w r G
def dsB (ops : List Oper) (o : Oper) (ds : List (Tmp × Option Nat)) : Bool := (o.looksAt ops.toArray == ds.map (·.1)) && ds.all fun p => dstIdx p.1 ops 0 == p.2
theorem look_ds {ops : List Oper} {T : Nat → Value → World → Prop} {a0 a : Act} {w : World} {G : Prop} : ∀ {ds : List (Tmp × Option Nat)}, (∀ p ∈ ds, dstIdx p.1 ops 0 = p.2) → lookD T a0 a w ds G → look ops T a0 a w (ds.map (·.1)) G
  | [], _, h => h
  | (t, some j) :: r, hd, h => by
    have e := hd _ List.mem_cons_self
    simp only at e
    unfold lookD at h
    simp only [List.map_cons, look, e]
    exact fun x => look_ds (fun p hp => hd p (List.mem_cons_of_mem _ hp)) (h x)
  | (t, none) :: r, hd, h => by
    have e := hd _ List.mem_cons_self
    simp only at e
    unfold lookD at h
    simp only [List.map_cons, look, e]
    exact fun x => look_ds (fun p hp => hd p (List.mem_cons_of_mem _ hp)) (h x)
theorem opOK_ds {ops : List Oper} {T : Nat → Value → World → Prop} {R : World → World → Prop} {I : Nat → World → Prop} {a0 : Act} {w0 : World} {k : Nat} {o : Oper} (ds : List (Tmp × Option Nat)) (hB : dsB ops o ds = true) (hg : o.guard = none)
    (h : ∀ (m : Nat) (a : Act) (w : World), m < ops.length → R w0 w → I m w → lookD T a0 a w ds (givesUpon P (fun v w' => T k v w' ∧ R w w' ∧ I (m + 1) w') ((execOp a.eval o).run P w))) : opOK P ops T R I a0 w0 k o := by
  intro m a w hm hR hI
  simp only [dsB, Bool.and_eq_true, beq_iff_eq] at hB
  obtain ⟨h1, h2⟩ := hB
  rw [h1]
  refine look_ds (fun p hp => by have := List.all_eq_true.1 h2 p hp; simpa using this) ?_
  have := h m a w hm hR hI
  rw [hg]
  exact this
theorem wp_region_rgl {id : Nat} {l : List Oper} {Q : Exit → Act → World → Prop} {a0 : Act} {w : World} (T : Nat → Value → World → Prop) (R : World → World → Prop) (I : Nat → World → Prop)
    (hm : P.follows .mixedOrders = true) (hB : rgB l a0.tmps.size = true) (hRr : ∀ a, R a a) (hRt : ∀ a b c, R a b → R b c → R a c) (hTs : ∀ k v a b, T k v a → R a b → T k v b) (hI0 : I 0 w.drew)
    (hops : opsOK P l T R I a0 w.drew l 0) (hfin : ∀ w', R w.drew w' → I l.length w' → finP T w' (fun a' => Q .normal a' w') l 0 a0) : (Code.region id l.toArray true).wp P Q a0 w := wp_region_rg T R I hm hB hRr hRt hTs hI0 hops hfin
end
end Go.Proofs.YtgdkionmeacalaaGreat
end
section
namespace Go.Proofs.YtgdkionmeacalaaGreat
open Go Go.RowKit
set_option linter.unusedVariables false
section
variable {P : Program}
def rgC (l : List Oper) (size : Nat) : Bool :=
  Region.noSelect l.toArray &&
  ((List.range l.length).all fun i => match l[i]? with
    | none => true
    | some o => (o.after.toList.all fun e => !Region.binds .any e || decide (e.on < i)) &&
      (o.dst.all fun d => decide (d < size) && dstIdx d l 0 == some i) &&
      ((o.looksAt l.toArray).all fun t => match dstIdx t l 0 with
        | none => true
        | some j => o.after.toList.any fun e => e.on == j && Region.binds .any e))
theorem wp_region_rgc {id : Nat} {l : List Oper} {Q : Exit → Act → World → Prop} {a0 : Act} {w : World} (T : Nat → Value → World → Prop) (R : World → World → Prop) (I : Nat → World → Prop)
    (hm : P.follows .mixedOrders = true) (hB : rgC l a0.tmps.size = true) (hRr : ∀ a, R a a) (hRt : ∀ a b c, R a b → R b c → R a c) (hTs : ∀ k v a b, T k v a → R a b → T k v b) (hI0 : I 0 w.drew)
    (hops : opsOK P l T R I a0 w.drew l 0) (hfin : ∀ w', R w.drew w' → I l.length w' → finP T w' (fun a' => Q .normal a' w') l 0 a0) : (Code.region id l.toArray true).wp P Q a0 w := by
  simp only [rgC, Bool.and_eq_true] at hB
  obtain ⟨hns, hB⟩ := hB
  have hB' : ∀ (i : Nat) (o : Oper), l[i]? = some o → (∀ e ∈ o.after, Region.binds .any e = true → e.on < i) ∧ (∀ d, o.dst = some d → d < a0.tmps.size ∧ dstIdx d l 0 = some i) ∧ (∀ t ∈ o.looksAt l.toArray, ∀ j, dstIdx t l 0 = some j → ∃ e ∈ o.after, e.on = j ∧ Region.binds .any e = true) := by
    intro i o ho
    have hlt := (List.getElem?_eq_some_iff.1 ho).1
    have h1 := List.all_eq_true.1 hB i (List.mem_range.2 hlt)
    simp only [ho, Bool.and_eq_true] at h1
    obtain ⟨⟨h1, h2⟩, h3⟩ := h1
    refine ⟨fun e he hb => by have := List.all_eq_true.1 h1 e (by simpa using he); simpa [hb] using this, fun d hd => ?_, fun t ht j hj => ?_⟩
    · rw [hd] at h2
      simp only [Option.all_some, Bool.and_eq_true, decide_eq_true_eq, beq_iff_eq] at h2
      exact h2
    · have h4 := List.all_eq_true.1 h3 t ht
      rw [hj] at h4
      obtain ⟨e, he, h5⟩ := List.any_eq_true.1 h4
      simp only [Bool.and_eq_true, beq_iff_eq] at h5
      exact ⟨e, by simpa using he, h5⟩
  have hdist : ∀ (i : Nat) (o : Oper) (j : Nat) (p : Oper), l[i]? = some o → l[j]? = some p → i ≠ j → ∀ d, o.dst = some d → p.dst ≠ some d := by
    intro i o j p ho hp hij d hd hpd
    have h1 := ((hB' i o ho).2.1 d hd).2
    rw [((hB' j p hp).2.1 d hpd).2] at h1
    injection h1 with h1
    exact hij h1.symm
  have main : ∀ (fuel m : Nat) (listed : Array Bool) (a : Act) (w' : World), cntF (fun i => listed.getD i true) l.length = fuel → listed.size = l.length → fuel + m = l.length → RJ l T R I a0 w.drew m listed a w' →
      wpAny P .any l.toArray Q fuel listed a w' := by
    intro fuel
    have hdone : ∀ (m : Nat) (listed : Array Bool) (a : Act) (w' : World), m = l.length → (∀ i, i < l.length → listed.getD i false = true) → RJ l T R I a0 w.drew m listed a w' → Q .normal a w' := by
      rintro m listed a w' rfl hall ⟨hR, hI, hd, hs, ht, hT⟩
      refine finP_to (T := T) (w := w') (F := fun a' => Q .normal a' w') (l := l) (k := 0) (b := a0) hd.symm hs.symm (fun t h => ?_) (fun j o ho hn => ?_) (hfin w' hR hI)
      · exact (ht t fun j o ho _ => h o (List.mem_of_getElem? ho)).symm
      · rw [Nat.zero_add]; exact hT j o ho (hall j (List.getElem?_eq_some_iff.1 ho).1) hn
    have hnil : ∀ (listed : Array Bool), listed.size = l.length → Region.ready .any l.toArray listed = [] → ∀ i, i < l.length → listed.getD i false = true := by
      intro listed hls hr i
      induction i using Nat.strongRecOn with
      | ind i ih =>
        intro hi
        by_cases hl : listed.getD i false = true
        · exact hl
        · exfalso
          have ho : l[i]? = some l[i] := List.getElem?_eq_getElem hi
          have hmem : i ∈ Region.ready .any l.toArray listed := mem_ready.2 ⟨by
            rw [Array.getD_eq_getD_getElem?, Array.getElem?_eq_getElem (by omega)] at *
            simp only [Option.getD_some, Bool.not_eq_true] at *
            exact hl, l[i], by simp, fun e he hb => ih e.on ((hB' i _ ho).1 e he hb) (by have := (hB' i _ ho).1 e he hb; omega)⟩
          rw [hr] at hmem
          cases hmem
    induction fuel with
    | zero =>
      intro m listed a w' hc hls hm' hJ
      have hall : ∀ i, i < l.length → listed.getD i false = true := fun i hi => by
        have := cntF_zero hc i hi
        rw [Array.getD_eq_getD_getElem?, Array.getElem?_eq_getElem (by omega)] at *
        simpa using this
      refine ⟨?_, hdone m listed a w' (by omega) hall hJ⟩
      cases hr : Region.ready .any l.toArray listed with
      | nil => rfl
      | cons x xs =>
        exfalso
        obtain ⟨h0, o, ho, _⟩ := mem_ready.1 (show x ∈ Region.ready .any l.toArray listed by rw [hr]; exact List.mem_cons_self)
        have hlt : x < l.length := by have := (Array.getElem?_eq_some_iff.1 ho).1; simpa using this
        have := hall x hlt
        rw [Array.getD_eq_getD_getElem?, Array.getElem?_eq_getElem (by omega)] at *
        simp at h0 this
        rw [h0] at this
        cases this
    | succ fuel ih =>
      intro m listed a w' hc hls hm' hJ
      refine ⟨fun hr => ?_, fun i hi => ?_⟩
      · exfalso
        have hall := hnil listed hls hr
        have : cntF (fun i => listed.getD i true) l.length = 0 := by
          rw [cntF_same (g := fun _ => true) (fun i hi => by
            have := hall i hi
            rw [Array.getD_eq_getD_getElem?, Array.getElem?_eq_getElem (by omega)] at *
            simpa using this)]
          clear hc hm' hls
          induction l.length with
          | zero => rfl
          | succ n ihn => simp [cntF, ihn]
        omega
      · obtain ⟨h0, o, ho', hall⟩ := mem_ready.1 hi
        have ho : l[i]? = some o := by simpa using ho'
        have hlt : i < l.length := (List.getElem?_eq_some_iff.1 ho).1
        obtain ⟨hR, hI, hd, hs, ht, hT⟩ := hJ
        obtain ⟨b1, b2, b3⟩ := hB' i o ho
        have hlook : ∀ t ∈ o.looksAt l.toArray, match dstIdx t l 0 with | some j => T j (tv a t) w' | none => tv a t = tv a0 t := by
          intro t htm
          cases hj : dstIdx t l 0 with
          | none =>
            refine tv_of (ht t fun j p hp _ => dstIdx_none hj p (List.mem_of_getElem? hp))
          | some j =>
            obtain ⟨e, he, rfl, hb⟩ := b3 t htm j hj
            obtain ⟨_, p, hp, hpd⟩ := dstIdx_some hj
            have := hT e.on p (by simpa using hp) (hall e he hb) (by rw [hpd]; simp)
            rw [hpd] at this
            exact this
        have hop := look_of hlook (opsOK_at hops ho m a w' (by omega) hR hI)
        rw [Nat.zero_add] at hop
        have hget : ∀ d, (listed.setIfInBounds i true).getD i d = true := fun d => by
          rw [Array.getD_eq_getD_getElem?, Array.getElem?_setIfInBounds_self_of_lt (by omega)]; rfl
        have next : ∀ v w1, T i v w1 → R w' w1 → I (m + 1) w1 → wpAny P .any l.toArray Q fuel (listed.setIfInBounds i true) (a.put o.dst v) w1 := by
          intro v w1 hTv hR1 hI1
          refine ih (m + 1) _ _ _ ?_ (by simpa using hls) (by omega) ⟨hRt _ _ _ hR hR1, hI1, (put_defers' _ _ _).trans hd, (put_size _ _ _).trans hs, fun t h => ?_, fun j p hp hl hn => ?_⟩
          · have := cntF_set (f := fun i => listed.getD i true) (g := fun j => (listed.setIfInBounds i true).getD j true) (i := i) h0 (hget true) (fun j hj => getD_set_ne true (Ne.symm hj)) hlt
            omega
          · have hne : o.dst ≠ some t := h i o ho (hget false)
            rw [put_ne _ _ _ hne]
            exact ht t fun j p hp hl => h j p hp (getD_set_true hl)
          · by_cases e : i = j
            · subst e
              rw [ho] at hp
              obtain rfl := Option.some.inj hp
              cases hod : o.dst with
              | none => exact absurd hod hn
              | some d =>
                have : tv (a.put (some d) v) d = v := by
                  unfold tv
                  rw [Array.getD_eq_getD_getElem?, put_same _ _ _ (by rw [hs]; exact (b2 d hod).1)]
                  rfl
                simp only [vof]
                rw [this]
                exact hTv
            · rw [getD_set_ne false e] at hl
              have h2 := hTs j _ w' w1 (hT j p hp hl hn) hR1
              cases hpd : p.dst with
              | none => exact absurd hpd hn
              | some d =>
                rw [hpd] at h2
                simp only [vof] at h2 ⊢
                rw [show tv (a.put o.dst v) d = tv a d from tv_of (put_ne _ _ _ (fun hod => hdist i o j p ho hp e d hod hpd))]
                exact h2
        unfold wpOp
        simp only [ho']
        cases hg : o.guard with
        | none =>
          rw [hg] at hop
          rw [if_pos (by simp [Region.wanted, hg])]
          exact .inl (wp_of_gives hop fun v w1 ⟨h1, h2, h3⟩ => next v w1 h1 h2 h3)
        | some g =>
          rw [hg] at hop
          obtain ⟨g1, g2⟩ := hop
          split
          · rename_i hw
            exact .inl (wp_of_gives (g1 hw) fun v w1 ⟨h1, h2, h3⟩ => next v w1 h1 h2 h3)
          · rename_i hw
            obtain ⟨h1, h2⟩ := g2 (by simpa using hw)
            exact next undef w' h1 (hRr _) h2
  refine wp_region_any hm ?_
  refine main l.toArray.size 0 _ a0 w.drew ?_ (by simp) (by simp) ⟨hRr _, hI0, rfl, rfl, fun t _ => rfl, fun j o ho hl => ?_⟩
  · have : ∀ n, n ≤ l.length → cntF (fun i => (Array.replicate l.toArray.size false).getD i true) n = n := by
      intro n
      induction n with
      | zero => intro _; rfl
      | succ n ihn =>
        intro hn
        simp only [cntF]
        rw [ihn (by omega)]
        have : (Array.replicate l.toArray.size false).getD n true = false := by
          rw [Array.getD_eq_getD_getElem?, Array.getElem?_replicate, if_pos (by simp; omega)]; rfl
        rw [if_neg (by rw [this]; decide)]
    simpa using this l.length (Nat.le_refl _)
  · exfalso
    rw [Array.getD_eq_getD_getElem?, Array.getElem?_replicate] at hl
    split at hl <;> simp at hl
theorem wp_region_rglc {id : Nat} {l : List Oper} {Q : Exit → Act → World → Prop} {a0 : Act} {w : World} (T : Nat → Value → World → Prop) (R : World → World → Prop) (I : Nat → World → Prop)
    (hm : P.follows .mixedOrders = true) (hB : rgC l a0.tmps.size = true) (hRr : ∀ a, R a a) (hRt : ∀ a b c, R a b → R b c → R a c) (hTs : ∀ k v a b, T k v a → R a b → T k v b) (hI0 : I 0 w.drew)
    (hops : opsOK P l T R I a0 w.drew l 0) (hfin : ∀ w', R w.drew w' → I l.length w' → finP T w' (fun a' => Q .normal a' w') l 0 a0) : (Code.region id l.toArray true).wp P Q a0 w := wp_region_rgc T R I hm hB hRr hRt hTs hI0 hops hfin
end
end Go.Proofs.YtgdkionmeacalaaGreat
end
