import Derived.Test.YtgdkionmeacalabGreatQ04
import Derived.Deep.Draws
import Derived.Deep.MidRow
import Derived.BigFrame
section
namespace Go.Proofs.YtgdkionmeacalabGreat
open Go.RowKit
set_option linter.unusedVariables false
set_option maxHeartbeats 1000000
set_option maxRecDepth 100000 in
theorem svalidPlace_t (p : Plc) (t : Bool) (w : World) (h : plB p = t) : Calls Tryz.prog 92 #[.agg #[.int .i64 p.x, .int .i64 p.y, .int .i64 p.rx, .int .i64 p.ry, .int .i64 p.ww, .int .i64 p.hh, .int .i64 p.qw, .int .i64 p.qh, .int .i64 p.an]] w fun e w' => e = .returned (.bool t) ∧ Below w.heap.size w w' := by
  cases h1 : rng p.x (-300) 300
  · have ht : false = t := by rw [← h]; simp [plB, shB, reB, h1]
    subst ht
    go_enter Tryz.func92, Tryz.ntmps92
    go_wp2_with fail
    with_reducible refine (inRange_q _ _ _ false _ h1).mono ?_
    rintro e w1 ⟨rfl, rfl⟩
    go_wp2
    go_ret
    exact ⟨rfl, (by repeat (first | with_reducible exact Below.refl _ _ | with_reducible assumption | with_reducible refine balloc ?_ | (with_reducible refine bset ?_ ?_; rotate_left; ((try dsimp only); omega)) | refine bkeep2 ?_ (by assumption) | with_reducible refine Below.drew ?_))⟩
  cases h2 : rng p.y (-300) 300
  · have ht : false = t := by rw [← h]; simp [plB, shB, reB, h2]
    subst ht
    go_enter Tryz.func92, Tryz.ntmps92
    go_wp2_with fail
    with_reducible refine (inRange_q _ _ _ true _ h1).mono ?_
    rintro e w1 ⟨rfl, rfl⟩
    go_wp2_with fail
    with_reducible refine (inRange_q _ _ _ false _ h2).mono ?_
    rintro e w1 ⟨rfl, rfl⟩
    go_wp2
    go_ret
    exact ⟨rfl, (by repeat (first | with_reducible exact Below.refl _ _ | with_reducible assumption | with_reducible refine balloc ?_ | (with_reducible refine bset ?_ ?_; rotate_left; ((try dsimp only); omega)) | refine bkeep2 ?_ (by assumption) | with_reducible refine Below.drew ?_))⟩
  cases h3 : rng p.rx 0 1000
  · have ht : false = t := by rw [← h]; simp [plB, shB, reB, h3]
    subst ht
    go_enter Tryz.func92, Tryz.ntmps92
    go_wp2_with fail
    with_reducible refine (inRange_q _ _ _ true _ h1).mono ?_
    rintro e w1 ⟨rfl, rfl⟩
    go_wp2_with fail
    with_reducible refine (inRange_q _ _ _ true _ h2).mono ?_
    rintro e w1 ⟨rfl, rfl⟩
    go_wp2_with fail
    with_reducible refine (inRange_q _ _ _ false _ h3).mono ?_
    rintro e w1 ⟨rfl, rfl⟩
    go_wp2
    go_ret
    exact ⟨rfl, (by repeat (first | with_reducible exact Below.refl _ _ | with_reducible assumption | with_reducible refine balloc ?_ | (with_reducible refine bset ?_ ?_; rotate_left; ((try dsimp only); omega)) | refine bkeep2 ?_ (by assumption) | with_reducible refine Below.drew ?_))⟩
  cases h4 : rng p.ry 0 1000
  · have ht : false = t := by rw [← h]; simp [plB, shB, reB, h4]
    subst ht
    go_enter Tryz.func92, Tryz.ntmps92
    go_wp2_with fail
    with_reducible refine (inRange_q _ _ _ true _ h1).mono ?_
    rintro e w1 ⟨rfl, rfl⟩
    go_wp2_with fail
    with_reducible refine (inRange_q _ _ _ true _ h2).mono ?_
    rintro e w1 ⟨rfl, rfl⟩
    go_wp2_with fail
    with_reducible refine (inRange_q _ _ _ true _ h3).mono ?_
    rintro e w1 ⟨rfl, rfl⟩
    go_wp2_with fail
    with_reducible refine (inRange_q _ _ _ false _ h4).mono ?_
    rintro e w1 ⟨rfl, rfl⟩
    go_wp2
    go_ret
    exact ⟨rfl, (by repeat (first | with_reducible exact Below.refl _ _ | with_reducible assumption | with_reducible refine balloc ?_ | (with_reducible refine bset ?_ ?_; rotate_left; ((try dsimp only); omega)) | refine bkeep2 ?_ (by assumption) | with_reducible refine Below.drew ?_))⟩
  cases h5 : rng p.ww (-300) 300
  · have ht : false = t := by rw [← h]; simp [plB, shB, reB, h5]
    subst ht
    go_enter Tryz.func92, Tryz.ntmps92
    go_wp2_with fail
    with_reducible refine (inRange_q _ _ _ true _ h1).mono ?_
    rintro e w1 ⟨rfl, rfl⟩
    go_wp2_with fail
    with_reducible refine (inRange_q _ _ _ true _ h2).mono ?_
    rintro e w1 ⟨rfl, rfl⟩
    go_wp2_with fail
    with_reducible refine (inRange_q _ _ _ true _ h3).mono ?_
    rintro e w1 ⟨rfl, rfl⟩
    go_wp2_with fail
    with_reducible refine (inRange_q _ _ _ true _ h4).mono ?_
    rintro e w1 ⟨rfl, rfl⟩
    go_wp2_with fail
    with_reducible refine (inRange_q _ _ _ false _ h5).mono ?_
    rintro e w1 ⟨rfl, rfl⟩
    go_wp2
    go_ret
    exact ⟨rfl, (by repeat (first | with_reducible exact Below.refl _ _ | with_reducible assumption | with_reducible refine balloc ?_ | (with_reducible refine bset ?_ ?_; rotate_left; ((try dsimp only); omega)) | refine bkeep2 ?_ (by assumption) | with_reducible refine Below.drew ?_))⟩
  cases h6 : rng p.hh (-300) 300
  · have ht : false = t := by rw [← h]; simp [plB, shB, reB, h6]
    subst ht
    go_enter Tryz.func92, Tryz.ntmps92
    go_wp2_with fail
    with_reducible refine (inRange_q _ _ _ true _ h1).mono ?_
    rintro e w1 ⟨rfl, rfl⟩
    go_wp2_with fail
    with_reducible refine (inRange_q _ _ _ true _ h2).mono ?_
    rintro e w1 ⟨rfl, rfl⟩
    go_wp2_with fail
    with_reducible refine (inRange_q _ _ _ true _ h3).mono ?_
    rintro e w1 ⟨rfl, rfl⟩
    go_wp2_with fail
    with_reducible refine (inRange_q _ _ _ true _ h4).mono ?_
    rintro e w1 ⟨rfl, rfl⟩
    go_wp2_with fail
    with_reducible refine (inRange_q _ _ _ true _ h5).mono ?_
    rintro e w1 ⟨rfl, rfl⟩
    go_wp2_with fail
    with_reducible refine (inRange_q _ _ _ false _ h6).mono ?_
    rintro e w1 ⟨rfl, rfl⟩
    go_wp2
    go_ret
    exact ⟨rfl, (by repeat (first | with_reducible exact Below.refl _ _ | with_reducible assumption | with_reducible refine balloc ?_ | (with_reducible refine bset ?_ ?_; rotate_left; ((try dsimp only); omega)) | refine bkeep2 ?_ (by assumption) | with_reducible refine Below.drew ?_))⟩
  cases h7 : rng p.qw 0 1000
  · have ht : false = t := by rw [← h]; simp [plB, shB, reB, h7]
    subst ht
    go_enter Tryz.func92, Tryz.ntmps92
    go_wp2_with fail
    with_reducible refine (inRange_q _ _ _ true _ h1).mono ?_
    rintro e w1 ⟨rfl, rfl⟩
    go_wp2_with fail
    with_reducible refine (inRange_q _ _ _ true _ h2).mono ?_
    rintro e w1 ⟨rfl, rfl⟩
    go_wp2_with fail
    with_reducible refine (inRange_q _ _ _ true _ h3).mono ?_
    rintro e w1 ⟨rfl, rfl⟩
    go_wp2_with fail
    with_reducible refine (inRange_q _ _ _ true _ h4).mono ?_
    rintro e w1 ⟨rfl, rfl⟩
    go_wp2_with fail
    with_reducible refine (inRange_q _ _ _ true _ h5).mono ?_
    rintro e w1 ⟨rfl, rfl⟩
    go_wp2_with fail
    with_reducible refine (inRange_q _ _ _ true _ h6).mono ?_
    rintro e w1 ⟨rfl, rfl⟩
    go_wp2_with fail
    with_reducible refine (inRange_q _ _ _ false _ h7).mono ?_
    rintro e w1 ⟨rfl, rfl⟩
    go_wp2
    go_ret
    exact ⟨rfl, (by repeat (first | with_reducible exact Below.refl _ _ | with_reducible assumption | with_reducible refine balloc ?_ | (with_reducible refine bset ?_ ?_; rotate_left; ((try dsimp only); omega)) | refine bkeep2 ?_ (by assumption) | with_reducible refine Below.drew ?_))⟩
  cases h8 : rng p.qh 0 1000
  · have ht : false = t := by rw [← h]; simp [plB, shB, reB, h8]
    subst ht
    go_enter Tryz.func92, Tryz.ntmps92
    go_wp2_with fail
    with_reducible refine (inRange_q _ _ _ true _ h1).mono ?_
    rintro e w1 ⟨rfl, rfl⟩
    go_wp2_with fail
    with_reducible refine (inRange_q _ _ _ true _ h2).mono ?_
    rintro e w1 ⟨rfl, rfl⟩
    go_wp2_with fail
    with_reducible refine (inRange_q _ _ _ true _ h3).mono ?_
    rintro e w1 ⟨rfl, rfl⟩
    go_wp2_with fail
    with_reducible refine (inRange_q _ _ _ true _ h4).mono ?_
    rintro e w1 ⟨rfl, rfl⟩
    go_wp2_with fail
    with_reducible refine (inRange_q _ _ _ true _ h5).mono ?_
    rintro e w1 ⟨rfl, rfl⟩
    go_wp2_with fail
    with_reducible refine (inRange_q _ _ _ true _ h6).mono ?_
    rintro e w1 ⟨rfl, rfl⟩
    go_wp2_with fail
    with_reducible refine (inRange_q _ _ _ true _ h7).mono ?_
    rintro e w1 ⟨rfl, rfl⟩
    go_wp2_with fail
    with_reducible refine (inRange_q _ _ _ false _ h8).mono ?_
    rintro e w1 ⟨rfl, rfl⟩
    go_wp2
    go_ret
    exact ⟨rfl, (by repeat (first | with_reducible exact Below.refl _ _ | with_reducible assumption | with_reducible refine balloc ?_ | (with_reducible refine bset ?_ ?_; rotate_left; ((try dsimp only); omega)) | refine bkeep2 ?_ (by assumption) | with_reducible refine Below.drew ?_))⟩
  have h9 : rng p.an 0 8 = t := by rw [← h]; simp [plB, shB, reB, h1, h2, h3, h4, h5, h6, h7, h8]
  go_enter Tryz.func92, Tryz.ntmps92
  go_wp2_with fail
  with_reducible refine (inRange_q _ _ _ true _ h1).mono ?_
  rintro e w1 ⟨rfl, rfl⟩
  go_wp2_with fail
  with_reducible refine (inRange_q _ _ _ true _ h2).mono ?_
  rintro e w1 ⟨rfl, rfl⟩
  go_wp2_with fail
  with_reducible refine (inRange_q _ _ _ true _ h3).mono ?_
  rintro e w1 ⟨rfl, rfl⟩
  go_wp2_with fail
  with_reducible refine (inRange_q _ _ _ true _ h4).mono ?_
  rintro e w1 ⟨rfl, rfl⟩
  go_wp2_with fail
  with_reducible refine (inRange_q _ _ _ true _ h5).mono ?_
  rintro e w1 ⟨rfl, rfl⟩
  go_wp2_with fail
  with_reducible refine (inRange_q _ _ _ true _ h6).mono ?_
  rintro e w1 ⟨rfl, rfl⟩
  go_wp2_with fail
  with_reducible refine (inRange_q _ _ _ true _ h7).mono ?_
  rintro e w1 ⟨rfl, rfl⟩
  go_wp2_with fail
  with_reducible refine (inRange_q _ _ _ true _ h8).mono ?_
  rintro e w1 ⟨rfl, rfl⟩
  go_wp2_with fail
  with_reducible refine (sanch_t _ t _ h9).mono ?_
  rintro e w1 ⟨rfl, rfl⟩
  go_wp2
  go_ret
  exact ⟨rfl, (by repeat (first | with_reducible exact Below.refl _ _ | with_reducible assumption | with_reducible refine balloc ?_ | (with_reducible refine bset ?_ ?_; rotate_left; ((try dsimp only); omega)) | refine bkeep2 ?_ (by assumption) | with_reducible refine Below.drew ?_))⟩
end Go.Proofs.YtgdkionmeacalabGreat
end
section
namespace Go.Proofs.YtgdkionmeacalabGreat
open Go.RowKit
set_option linter.unusedVariables false
set_option maxHeartbeats 1000000
attribute [local go_sem 5000] run_mx run_mn
attribute [local go_sem] growUpon_value growUpon_skip growUpon_enter
theorem fz_q {w : World} {b : Nat} {cs : Array Value} {T : TypeId} (h : w.heap[b]? = some (.cells cs T (0, 0))) (i : Nat) : w.frozen? ⟨b, i, none⟩ = false := by simp [World.frozen?, h]
theorem c9_q {w : World} {b : Nat} {a0 a1 a2 a3 a4 a5 a6 a7 a8 : Value} {T : TypeId} {fz : Nat × Nat} (h : w.heap[b]? = some (.cells #[a0, a1, a2, a3, a4, a5, a6, a7, a8] T fz)) :
    w.cell? ⟨b, 0, none⟩ = some a0 ∧ w.cell? ⟨b, 1, none⟩ = some a1 ∧ w.cell? ⟨b, 2, none⟩ = some a2 ∧ w.cell? ⟨b, 3, none⟩ = some a3 ∧ w.cell? ⟨b, 4, none⟩ = some a4 ∧ w.cell? ⟨b, 5, none⟩ = some a5 ∧ w.cell? ⟨b, 6, none⟩ = some a6 ∧ w.cell? ⟨b, 7, none⟩ = some a7 ∧ w.cell? ⟨b, 8, none⟩ = some a8 :=
  ⟨cl_q h 0, cl_q h 1, cl_q h 2, cl_q h 3, cl_q h 4, cl_q h 5, cl_q h 6, cl_q h 7, cl_q h 8⟩
theorem f9_q {w : World} {b : Nat} {cs : Array Value} {T : TypeId} (h : w.heap[b]? = some (.cells cs T (0, 0))) : w.frozen? ⟨b, 0, none⟩ = false ∧ w.frozen? ⟨b, 1, none⟩ = false ∧ w.frozen? ⟨b, 2, none⟩ = false ∧ w.frozen? ⟨b, 3, none⟩ = false ∧ w.frozen? ⟨b, 4, none⟩ = false ∧ w.frozen? ⟨b, 5, none⟩ = false ∧ w.frozen? ⟨b, 6, none⟩ = false ∧ w.frozen? ⟨b, 7, none⟩ = false ∧ w.frozen? ⟨b, 8, none⟩ = false :=
  ⟨fz_q h 0, fz_q h 1, fz_q h 2, fz_q h 3, fz_q h 4, fz_q h 5, fz_q h 6, fz_q h 7, fz_q h 8⟩
end Go.Proofs.YtgdkionmeacalabGreat
end
section
namespace Go.Proofs.YtgdkionmeacalabGreat
open Go.RowKit
set_option linter.unusedVariables false
set_option maxHeartbeats 2000000
theorem one_lit1 {B rb : Nat} {A : Option Addr} {l c m k : Nat} {cs : Array Value} {T : TypeId} (w : World) (o : Obj) (h : Rd B rb A l c m w) (hm : m ≤ 1000000) (hk : cs.size = k) (h1 : 1 ≤ k) (h2 : k ≤ 100) (ha : cs.toList.all isI = true) :
    Calls Tryz.prog 43 #[.pointer (some ⟨rb, 0, none⟩), .slice (some ⟨w.heap.size + 1, 0, none⟩) k k] ((w.alloc o).alloc (.cells cs T)) fun e w' => (∃ z, e = .returned (.int .i64 z)) ∧ Rd B rb A l c (m + 1) w' ∧ Chg [rb] (w.alloc o) w' := by
  have := one_lit (cs := cs) (T := T) (w.alloc o) (h.alloc o) hm hk h1 h2 ha
  rwa [World.size_alloc] at this
set_option maxRecDepth 100000 in
theorem goodPlace_any {B rb : Nat} {A : Option Addr} {l c m : Nat} (w : World) (h : Rd B rb A l c m w) (hm : m ≤ 900000) :
    Calls Tryz.prog 100 #[.pointer (some ⟨rb, 0, none⟩)] w fun e w' => (∃ (v0 v1 v2 v3 v4 v5 v6 v7 v8 : Int), e = .returned (.agg #[.int .i64 v0, .int .i64 v1, .int .i64 v2, .int .i64 v3, .int .i64 v4, .int .i64 v5, .int .i64 v6, .int .i64 v7, .int .i64 v8])) ∧ Rd B rb A l c (m + 10) w' ∧ Chg [rb] w w' := by
  have hlt := h.lt
  have hbase := h.base
  go_enter Tryz.func100, Tryz.ntmps100
  go_wp2_with fail
  with_reducible refine (one_lit1 _ _ h (by omega) (by simp) (by omega) (by omega) (by simp [isI])).mono ?_
  rintro e w1 ⟨⟨z1, rfl⟩, hr1, hc1⟩
  go_wp2_with fail
  with_reducible refine (one_lit _ hr1 (by omega) (by simp) (by omega) (by omega) (by simp [isI])).mono ?_
  rintro e w2 ⟨⟨z2, rfl⟩, hr2, hc2⟩
  go_wp2_with fail
  with_reducible refine (one_lit _ hr2 (by omega) (by simp) (by omega) (by omega) (by simp [isI])).mono ?_
  rintro e w3 ⟨⟨z3, rfl⟩, hr3, hc3⟩
  go_wp2_with fail
  with_reducible refine (one_lit _ hr3 (by omega) (by simp) (by omega) (by omega) (by simp [isI])).mono ?_
  rintro e w4 ⟨⟨z4, rfl⟩, hr4, hc4⟩
  go_wp2_with fail
  with_reducible refine (one_lit _ hr4 (by omega) (by simp) (by omega) (by omega) (by simp [isI])).mono ?_
  rintro e w5 ⟨⟨z5, rfl⟩, hr5, hc5⟩
  go_wp2_with fail
  with_reducible refine (one_lit _ hr5 (by omega) (by simp) (by omega) (by omega) (by simp [isI])).mono ?_
  rintro e w6 ⟨⟨z6, rfl⟩, hr6, hc6⟩
  go_wp2_with fail
  with_reducible refine (one_lit _ hr6 (by omega) (by simp) (by omega) (by omega) (by simp [isI])).mono ?_
  rintro e w7 ⟨⟨z7, rfl⟩, hr7, hc7⟩
  go_wp2_with fail
  with_reducible refine (one_lit _ hr7 (by omega) (by simp) (by omega) (by omega) (by simp [isI])).mono ?_
  rintro e w8 ⟨⟨z8, rfl⟩, hr8, hc8⟩
  go_wp2_with fail
  with_reducible refine (pick_any _ _ hr8 (by omega)).mono ?_
  rintro e w9 ⟨⟨z9, rfl, -⟩, hr9, hc9⟩
  go_wp2_with fail
  with_reducible refine (one_lit _ hr9 (by omega) (by simp) (by omega) (by omega) (by simp [isI])).mono ?_
  rintro e w10 ⟨⟨z10, rfl⟩, hr10, hc10⟩
  have hc : Chg [rb] (w.alloc _) w10 := (((((((((hc1).trans hc2).trans hc3).trans hc4).trans hc5).trans hc6).trans hc7).trans hc8).trans hc9).trans hc10
  clear hc1 hc2 hc3 hc4 hc5 hc6 hc7 hc8 hc9 hc10 hr1 hr2 hr3 hr4 hr5 hr6 hr7 hr8 hr9
  have hb0 := (hc.block w.heap.size (by simp) (by simp; omega)).trans (heap_alloc_new w _)
  have hs := hc.size
  simp only [World.size_alloc] at hs
  have HC := Lib.hid ((((Chg.refl [rb] w).alloc _).trans hc).alloc (.cells #[.int .i64 z1, .int .i64 z2, .int .i64 z3, .int .i64 z4, .int .i64 z5, .int .i64 z6, .int .i64 z7, .int .i64 z8, .int .i64 z10] 36))
  have hl7 := hr10.lt
  have hx0 := Nat.lt_of_succ_le hs
  have hn0 : w.heap.size ≠ rb := by omega
  have hB0 : B ≤ w.heap.size := by omega
  have hn1 : w10.heap.size ≠ rb := by omega
  have hB1 : B ≤ w10.heap.size := by omega
  have hn01 : w.heap.size ≠ w10.heap.size := by omega
  have hn10 : ¬ w10.heap.size = w.heap.size := by omega
  have hw1 : w.heap.size ≤ w10.heap.size := by omega
  have HR := Lib.hid (hr10.alloc (.cells #[.int .i64 z1, .int .i64 z2, .int .i64 z3, .int .i64 z4, .int .i64 z5, .int .i64 z6, .int .i64 z7, .int .i64 z8, .int .i64 z10] 36))
  have HB1 := Lib.hid (heap_alloc_new w10 (.cells #[.int .i64 z1, .int .i64 z2, .int .i64 z3, .int .i64 z4, .int .i64 z5, .int .i64 z6, .int .i64 z7, .int .i64 z8, .int .i64 z10] 36))
  have HB0 := Lib.hid ((Below.heap_alloc w10 (.cells #[.int .i64 z1, .int .i64 z2, .int .i64 z3, .int .i64 z4, .int .i64 z5, .int .i64 z6, .int .i64 z7, .int .i64 z8, .int .i64 z10] 36) w.heap.size hx0).trans hb0)
  clear hc hlt hbase hs hl7 hb0 hr10
  go_upto_region 2 with (fail)
  refine wp_genG (fun W => W.heap[w.heap.size]? = some (.cells #[.int .i64 0, .int .i64 0, .int .i64 0, .int .i64 0, .int .i64 0, .int .i64 0, .int .i64 0, .int .i64 0, .int .i64 0] 36) ∧ W.heap[w10.heap.size]? = some (.cells #[.int .i64 z1, .int .i64 z2, .int .i64 z3, .int .i64 z4, .int .i64 z5, .int .i64 z6, .int .i64 z7, .int .i64 z8, .int .i64 z10] 36) ∧ Rd B rb A l c (m + 10) W ∧ Chg [rb] w W) ⟨HB0.out, HB1.out, HR.out.mono (by omega), HC.out⟩ (fun wz hwz => ?_)
  clear HB0 HB1 HR HC
  obtain ⟨k0, k1, k2, k3⟩ := hwz
  have HB0 := Lib.hid k0
  have HB1 := Lib.hid k1
  have HR := Lib.hid k2
  have HC := Lib.hid k3
  clear k0 k1 k2 k3
  have h0 := HB0.out
  have h1 := HB1.out
  obtain ⟨c0, c1, c2, c3, c4, c5, c6, c7, c8⟩ := c9_q h1
  obtain ⟨d0, d1, d2, d3, d4, d5, d6, d7, d8⟩ := c9_q h0
  obtain ⟨f0, f1, f2, f3, f4, f5, f6, f7, f8⟩ := f9_q h0
  clear h0 h1
  go_wp2
  refine bp_gen (fun W => W.heap[w.heap.size]? = some (.cells #[.int .i64 z1, .int .i64 z2, .int .i64 z3, .int .i64 z4, .int .i64 z5, .int .i64 z6, .int .i64 z7, .int .i64 z8, .int .i64 z10] 36) ∧ Rd B rb A l c (m + 10) W ∧ Chg [rb] w W) ⟨put9h HB0.out (.int .i64 z1) (.int .i64 z2) (.int .i64 z3) (.int .i64 z4) (.int .i64 z5) (.int .i64 z6) (.int .i64 z7) (.int .i64 z8) (.int .i64 z10), put9r (HR.out.mono (by omega)) hB0 hn0 (.int .i64 z1) (.int .i64 z2) (.int .i64 z3) (.int .i64 z4) (.int .i64 z5) (.int .i64 z6) (.int .i64 z7) (.int .i64 z8) (.int .i64 z10), put9c HC.out (.inr (Nat.le_refl _)) (.int .i64 z1) (.int .i64 z2) (.int .i64 z3) (.int .i64 z4) (.int .i64 z5) (.int .i64 z6) (.int .i64 z7) (.int .i64 z8) (.int .i64 z10)⟩ ?_
  clear HB0 HB1 HC HR c0 c1 c2 c3 c4 c5 c6 c7 c8 d0 d1 d2 d3 d4 d5 d6 d7 d8 f0 f1 f2 f3 f4 f5 f6 f7 f8
  rintro W ⟨h0, hR, hC⟩
  obtain ⟨d0, d1, d2, d3, d4, d5, d6, d7, d8⟩ := c9_q h0
  exact bodyPost_ret (v := .agg #[.int .i64 z1, .int .i64 z2, .int .i64 z3, .int .i64 z4, .int .i64 z5, .int .i64 z6, .int .i64 z7, .int .i64 z8, .int .i64 z10]) (by simp only [results, Tryz.results100]; go_simp) rfl ⟨⟨_, _, _, _, _, _, _, _, _, rfl⟩, hR, hC⟩
end Go.Proofs.YtgdkionmeacalabGreat
end
section
namespace Go.Proofs.YtgdkionmeacalabGreat
open Go Go.RowKit
set_option linter.unusedVariables false
section
variable {P : Program}
def rgC (l : List Oper) (size : Nat) : Bool :=
  Region.noSelect l.toArray &&
  ((List.range l.length).all fun i => match l[i]? with
    | none => true
    | some o => (o.after.toList.all fun e => !Region.binds .any e || decide (e.on < i)) &&
      (o.dst.all fun d => decide (d < size) && dstIdx d l 0 == some i) &&
      ((o.looksAt l.toArray).all fun t => match dstIdx t l 0 with
        | none => true
        | some j => o.after.toList.any fun e => e.on == j && Region.binds .any e))
end
end Go.Proofs.YtgdkionmeacalabGreat
end
section
namespace Go.Proofs.YtgdkionmeacalabGreat
open Go Go.RowKit
set_option linter.unusedVariables false
section
variable {P : Program}
/-- one operation waits for another, by way of others -/
def reachB (l : List Oper) : Nat → Nat → Nat → Bool
  | 0, _, _ => false
  | f + 1, i, j => match l[i]? with
    | none => false
    | some o => o.after.toList.any fun e => Region.binds .any e && (e.on == j || reachB l f e.on j)
/-- all from n on wait for all ahead of n -/
def cloB (l : List Oper) (n : Nat) : Bool := decide (n ≤ l.length) && (List.range l.length).all fun i => decide (i < n) || (List.range n).all fun j => reachB l l.length i j
/-- what is done waits for nothing -/
def DC (l : List Oper) (listed : Array Bool) : Prop := ∀ (i : Nat) (o : Oper), l[i]? = some o → listed.getD i false = true → ∀ e ∈ o.after, Region.binds .any e = true → listed.getD e.on false = true
theorem DC.reach {l : List Oper} {listed : Array Bool} (h : DC l listed) : ∀ (f : Nat) {i j : Nat}, listed.getD i false = true → reachB l f i j = true → listed.getD j false = true
  | 0, i, j, _, hr => by simp [reachB] at hr
  | f + 1, i, j, hi, hr => by
    rw [reachB] at hr
    cases ho : l[i]? with
    | none => rw [ho] at hr; simp at hr
    | some o =>
      rw [ho] at hr
      simp only [List.any_eq_true, Bool.and_eq_true, Bool.or_eq_true, beq_iff_eq] at hr
      obtain ⟨e, he, hb, hr⟩ := hr
      have hl := h i o ho hi e (by simpa using he) hb
      rcases hr with rfl | hr
      · exact hl
      · exact DC.reach h f hl hr
theorem DC.set {l : List Oper} {listed : Array Bool} (h : DC l listed) {i : Nat} {o : Oper} (ho : l[i]? = some o) (hall : ∀ e ∈ o.after, Region.binds .any e = true → listed.getD e.on false = true) : DC l (listed.setIfInBounds i true) := fun k p hp hl e he hb => by
  by_cases e1 : i = k
  · subst e1
    rw [ho] at hp
    obtain rfl := Option.some.inj hp
    exact getD_set_true (hall e he hb)
  · rw [getD_set_ne false e1] at hl
    exact getD_set_true (h k p hp hl e he hb)
theorem cntF_lt (n1 : Nat) : ∀ n : Nat, cntF (fun i => decide (i < n1)) n = n - n1
  | 0 => by simp [cntF]
  | n + 1 => by
    simp only [cntF, cntF_lt n1 n]
    by_cases h : n < n1
    · simp [h]; omega
    · simp [h]; omega
theorem listedTo_size : ∀ (m k : Nat) (l : Array Bool), (listedTo m k l).size = l.size
  | 0, _, _ => rfl
  | m + 1, k, l => by rw [listedTo, listedTo_size]; simp
theorem listedTo_getD : ∀ {m k : Nat} {l : Array Bool} {i : Nat}, k + m ≤ l.size → (listedTo m k l).getD i false = if k ≤ i ∧ i < k + m then true else l.getD i false
  | 0, k, l, i, _ => by rw [listedTo, if_neg (by omega)]
  | m + 1, k, l, i, h => by
    rw [listedTo, listedTo_getD (by simpa using (by omega : k + 1 + m ≤ l.size))]
    by_cases e : i = k
    · subst e
      rw [if_neg (by omega), if_pos (by omega), Array.getD_eq_getD_getElem?, Array.getElem?_setIfInBounds_self_of_lt (by omega)]
      rfl
    · rw [getD_set_ne false (fun h => e h.symm)]
      by_cases h2 : k + 1 ≤ i ∧ i < k + 1 + m
      · rw [if_pos h2, if_pos (by omega)]
      · rw [if_neg h2, if_neg (by omega)]
theorem wpAny_rgp {l : List Oper} {Q : Exit → Act → World → Prop} {a0 : Act} {w : World} (T : Nat → Value → World → Prop) (R : World → World → Prop) (I : Nat → World → Prop)
    (n1 : Nat) (hB : rgC l a0.tmps.size = true) (hC : cloB l n1 = true) (hRr : ∀ a, R a a) (hRt : ∀ a b c, R a b → R b c → R a c) (hTs : ∀ k v a b, T k v a → R a b → T k v b) (hI0 : I 0 w.drew)
    (hops : opsOK P l T R I a0 w.drew (l.take n1) 0) (hfin : ∀ w', R w.drew w' → I n1 w' → finP T w' (fun a' => wpAny P .any l.toArray Q (l.length - n1) (listedTo n1 0 (Array.replicate l.toArray.size false)) a' w') (l.take n1) 0 a0) : wpAny P .any l.toArray Q l.toArray.size (Array.replicate l.toArray.size false) a0 w.drew := by
  simp only [rgC, Bool.and_eq_true] at hB
  obtain ⟨hns, hB⟩ := hB
  have hB' : ∀ (i : Nat) (o : Oper), l[i]? = some o → (∀ e ∈ o.after, Region.binds .any e = true → e.on < i) ∧ (∀ d, o.dst = some d → d < a0.tmps.size ∧ dstIdx d l 0 = some i) ∧ (∀ t ∈ o.looksAt l.toArray, ∀ j, dstIdx t l 0 = some j → ∃ e ∈ o.after, e.on = j ∧ Region.binds .any e = true) := by
    intro i o ho
    have hlt := (List.getElem?_eq_some_iff.1 ho).1
    have h1 := List.all_eq_true.1 hB i (List.mem_range.2 hlt)
    simp only [ho, Bool.and_eq_true] at h1
    obtain ⟨⟨h1, h2⟩, h3⟩ := h1
    refine ⟨fun e he hb => by have := List.all_eq_true.1 h1 e (by simpa using he); simpa [hb] using this, fun d hd => ?_, fun t ht j hj => ?_⟩
    · rw [hd] at h2
      simp only [Option.all_some, Bool.and_eq_true, decide_eq_true_eq, beq_iff_eq] at h2
      exact h2
    · have h4 := List.all_eq_true.1 h3 t ht
      rw [hj] at h4
      obtain ⟨e, he, h5⟩ := List.any_eq_true.1 h4
      simp only [Bool.and_eq_true, beq_iff_eq] at h5
      exact ⟨e, by simpa using he, h5⟩
  have hdist : ∀ (i : Nat) (o : Oper) (j : Nat) (p : Oper), l[i]? = some o → l[j]? = some p → i ≠ j → ∀ d, o.dst = some d → p.dst ≠ some d := by
    intro i o j p ho hp hij d hd hpd
    have h1 := ((hB' i o ho).2.1 d hd).2
    rw [((hB' j p hp).2.1 d hpd).2] at h1
    injection h1 with h1
    exact hij h1.symm
  obtain ⟨hle1, hcl⟩ : n1 ≤ l.length ∧ ∀ i, n1 ≤ i → i < l.length → ∀ j, j < n1 → reachB l l.length i j = true := by
    simp only [cloB, Bool.and_eq_true, decide_eq_true_eq, List.all_eq_true, List.mem_range, Bool.or_eq_true] at hC
    refine ⟨hC.1, fun i hi hil j hj => ?_⟩
    rcases hC.2 i hil with h | h
    · omega
    · exact h j hj
  have main : ∀ (fuel m : Nat) (listed : Array Bool) (a : Act) (w' : World), cntF (fun i => listed.getD i true) l.length = fuel → listed.size = l.length → fuel + m = l.length → (∀ i, n1 ≤ i → i < l.length → listed.getD i false = false) → DC l listed → RJ l T R I a0 w.drew m listed a w' →
      wpAny P .any l.toArray Q fuel listed a w' := by
    intro fuel
    have hdone : ∀ (m : Nat) (listed : Array Bool) (a : Act) (w' : World), cntF (fun i => listed.getD i true) l.length = l.length - m → listed.size = l.length → m ≤ l.length → (∀ i, n1 ≤ i → i < l.length → listed.getD i false = false) → (∀ i, i < n1 → listed.getD i false = true) → RJ l T R I a0 w.drew m listed a w' → wpAny P .any l.toArray Q (l.length - m) listed a w' := by
      rintro m listed a w' hc hls hml hlow hall ⟨hR, hI, hd, hs, ht, hT⟩
      have hm1 : m = n1 := by
        have h1 : cntF (fun i => listed.getD i true) l.length = cntF (fun i => decide (i < n1)) l.length := cntF_same (fun i hi => by
          by_cases h : i < n1
          · have := hall i h
            rw [Array.getD_eq_getD_getElem?, Array.getElem?_eq_getElem (by omega)] at *
            simpa [h] using this
          · have := hlow i (by omega) hi
            rw [Array.getD_eq_getD_getElem?, Array.getElem?_eq_getElem (by omega)] at *
            simpa [h] using this)
        rw [h1, cntF_lt] at hc
        omega
      subst hm1
      have he : listed = listedTo m 0 (Array.replicate l.toArray.size false) := by
        apply Array.ext
        · rw [listedTo_size]; simp [hls]
        · intro i h1 h2
          have e1 : listed[i] = listed.getD i false := by rw [Array.getD_eq_getD_getElem?, Array.getElem?_eq_getElem h1]; rfl
          have e2 : (listedTo m 0 (Array.replicate l.toArray.size false))[i] = (listedTo m 0 (Array.replicate l.toArray.size false)).getD i false := by rw [Array.getD_eq_getD_getElem?, Array.getElem?_eq_getElem h2]; rfl
          rw [e1, e2, listedTo_getD (by simpa using (by omega : 0 + m ≤ l.length))]
          by_cases h : i < m
          · rw [hall i h, if_pos (by omega)]
          · rw [hlow i (by omega) (by omega), if_neg (by omega), Array.getD_eq_getD_getElem?, Array.getElem?_replicate]
            split <;> rfl
      have hlm : ∀ (j : Nat) (o : Oper), l[j]? = some o → listed.getD j false = true → j < m := fun j o ho hl => by
        by_cases h : j < m
        · exact h
        · exfalso
          have := hlow j (by omega) (List.getElem?_eq_some_iff.1 ho).1
          rw [hl] at this
          cases this
      rw [he]
      refine finP_to (T := T) (w := w') (F := fun a' => wpAny P .any l.toArray Q (l.length - m) (listedTo m 0 (Array.replicate l.toArray.size false)) a' w') (l := l.take m) (k := 0) (b := a0) hd.symm hs.symm (fun t h => ?_) (fun j o ho hn => ?_) (hfin w' hR hI)
      · exact (ht t fun j o ho hl => h o (by
          have hj := hlm j o ho hl
          exact List.mem_of_getElem? (i := j) (by rw [List.getElem?_take, if_pos hj]; exact ho))).symm
      · rw [Nat.zero_add]
        rw [List.getElem?_take] at ho
        split at ho
        · rename_i hj
          exact hT j o ho (hall j hj) hn
        · cases ho
    induction fuel with
    | zero =>
      intro m listed a w' hc hls hm' hlow hdc hJ
      have hall : ∀ i, i < l.length → listed.getD i false = true := fun i hi => by
        have := cntF_zero hc i hi
        rw [Array.getD_eq_getD_getElem?, Array.getElem?_eq_getElem (by omega)] at *
        simpa using this
      have h := hdone m listed a w' (by rw [hc]; omega) hls (by omega) hlow (fun i hi => hall i (by omega)) hJ
      rwa [show l.length - m = 0 by omega] at h
    | succ fuel ih =>
      intro m listed a w' hc hls hm' hlow hdc hJ
      by_cases hph : ∀ i, i < n1 → listed.getD i false = true
      · have h := hdone m listed a w' (by rw [hc]; omega) hls (by omega) hlow hph hJ
        rwa [show l.length - m = fuel + 1 by omega] at h
      have hlt1 : ∀ (i : Nat) (o : Oper), l[i]? = some o → listed.getD i false = false → (∀ e ∈ o.after, Region.binds .any e = true → listed.getD e.on false = true) → i < n1 := fun i o ho h0 hall => by
        by_cases h : i < n1
        · exact h
        · exfalso
          apply hph
          intro j hj
          have hr := hcl i (by omega) (List.getElem?_eq_some_iff.1 ho).1 j hj
          have hpos : l.length = (l.length - 1) + 1 := by have := (List.getElem?_eq_some_iff.1 ho).1; omega
          rw [hpos] at hr
          simp only [reachB, ho, List.any_eq_true, Bool.and_eq_true, Bool.or_eq_true, beq_iff_eq] at hr
          obtain ⟨e, he, hb, hr⟩ := hr
          have hl := hall e (by simpa using he) hb
          rcases hr with rfl | hr
          · exact hl
          · exact DC.reach hdc _ hl hr
      refine ⟨fun hr => ?_, fun i hi => ?_⟩
      · exfalso
        apply hph
        intro i
        induction i using Nat.strongRecOn with
        | ind i ih' =>
          intro hi
          by_cases hl : listed.getD i false = true
          · exact hl
          · exfalso
            have hil : i < l.length := by omega
            have ho : l[i]? = some l[i] := List.getElem?_eq_getElem hil
            have hmem : i ∈ Region.ready .any l.toArray listed := mem_ready.2 ⟨by
              rw [Array.getD_eq_getD_getElem?, Array.getElem?_eq_getElem (by omega)] at *
              simp only [Option.getD_some, Bool.not_eq_true] at *
              exact hl, l[i], by simp, fun e he hb => ih' e.on ((hB' i _ ho).1 e he hb) (by have := (hB' i _ ho).1 e he hb; omega)⟩
            rw [hr] at hmem
            cases hmem
      · obtain ⟨h0, o, ho', hall⟩ := mem_ready.1 hi
        have ho : l[i]? = some o := by simpa using ho'
        have hlt : i < l.length := (List.getElem?_eq_some_iff.1 ho).1
        have h0' : listed.getD i false = false := by
          rw [Array.getD_eq_getD_getElem?, Array.getElem?_eq_getElem (by omega)] at *
          simpa using h0
        have hi1 : i < n1 := hlt1 i o ho h0' hall
        have hot : (l.take n1)[i]? = some o := by rw [List.getElem?_take, if_pos hi1]; exact ho
        obtain ⟨hR, hI, hd, hs, ht, hT⟩ := hJ
        obtain ⟨b1, b2, b3⟩ := hB' i o ho
        have hlook : ∀ t ∈ o.looksAt l.toArray, match dstIdx t l 0 with | some j => T j (tv a t) w' | none => tv a t = tv a0 t := by
          intro t htm
          cases hj : dstIdx t l 0 with
          | none =>
            refine tv_of (ht t fun j p hp _ => dstIdx_none hj p (List.mem_of_getElem? hp))
          | some j =>
            obtain ⟨e, he, rfl, hb⟩ := b3 t htm j hj
            obtain ⟨_, p, hp, hpd⟩ := dstIdx_some hj
            have := hT e.on p (by simpa using hp) (hall e he hb) (by rw [hpd]; simp)
            rw [hpd] at this
            exact this
        have hop := look_of hlook (opsOK_at hops hot m a w' (by omega) hR hI)
        rw [Nat.zero_add] at hop
        have hget : ∀ d, (listed.setIfInBounds i true).getD i d = true := fun d => by
          rw [Array.getD_eq_getD_getElem?, Array.getElem?_setIfInBounds_self_of_lt (by omega)]; rfl
        have next : ∀ v w1, T i v w1 → R w' w1 → I (m + 1) w1 → wpAny P .any l.toArray Q fuel (listed.setIfInBounds i true) (a.put o.dst v) w1 := by
          intro v w1 hTv hR1 hI1
          refine ih (m + 1) _ _ _ ?_ (by simpa using hls) (by omega) (fun k hk hkl => ?_) (hdc.set ho hall) ⟨hRt _ _ _ hR hR1, hI1, (put_defers' _ _ _).trans hd, (put_size _ _ _).trans hs, fun t h => ?_, fun j p hp hl hn => ?_⟩
          · have := cntF_set (f := fun i => listed.getD i true) (g := fun j => (listed.setIfInBounds i true).getD j true) (i := i) h0 (hget true) (fun j hj => getD_set_ne true (Ne.symm hj)) hlt
            omega
          · rw [getD_set_ne false (by omega)]; exact hlow k hk hkl
          · have hne : o.dst ≠ some t := h i o ho (hget false)
            rw [put_ne _ _ _ hne]
            exact ht t fun j p hp hl => h j p hp (getD_set_true hl)
          · by_cases e : i = j
            · subst e
              rw [ho] at hp
              obtain rfl := Option.some.inj hp
              cases hod : o.dst with
              | none => exact absurd hod hn
              | some d =>
                have : tv (a.put (some d) v) d = v := by
                  unfold tv
                  rw [Array.getD_eq_getD_getElem?, put_same _ _ _ (by rw [hs]; exact (b2 d hod).1)]
                  rfl
                simp only [vof]
                rw [this]
                exact hTv
            · rw [getD_set_ne false e] at hl
              have h2 := hTs j _ w' w1 (hT j p hp hl hn) hR1
              cases hpd : p.dst with
              | none => exact absurd hpd hn
              | some d =>
                rw [hpd] at h2
                simp only [vof] at h2 ⊢
                rw [show tv (a.put o.dst v) d = tv a d from tv_of (put_ne _ _ _ (fun hod => hdist i o j p ho hp e d hod hpd))]
                exact h2
        unfold wpOp
        simp only [ho']
        cases hg : o.guard with
        | none =>
          rw [hg] at hop
          rw [if_pos (by simp [Region.wanted, hg])]
          exact .inl (wp_of_gives hop fun v w1 ⟨h1, h2, h3⟩ => next v w1 h1 h2 h3)
        | some g =>
          rw [hg] at hop
          obtain ⟨g1, g2⟩ := hop
          split
          · rename_i hw
            exact .inl (wp_of_gives (g1 hw) fun v w1 ⟨h1, h2, h3⟩ => next v w1 h1 h2 h3)
          · rename_i hw
            obtain ⟨h1, h2⟩ := g2 (by simpa using hw)
            exact next undef w' h1 (hRr _) h2
  refine main l.toArray.size 0 _ a0 w.drew ?_ (by simp) (by simp) (fun i _ hil => by rw [Array.getD_eq_getD_getElem?, Array.getElem?_replicate, if_pos (by simpa using hil)]; rfl) (fun i o ho hl => by
    exfalso
    rw [Array.getD_eq_getD_getElem?, Array.getElem?_replicate] at hl
    split at hl <;> simp at hl) ⟨hRr _, hI0, rfl, rfl, fun t _ => rfl, fun j o ho hl => ?_⟩
  · have : ∀ n, n ≤ l.length → cntF (fun i => (Array.replicate l.toArray.size false).getD i true) n = n := by
      intro n
      induction n with
      | zero => intro _; rfl
      | succ n ihn =>
        intro hn
        simp only [cntF]
        rw [ihn (by omega)]
        have : (Array.replicate l.toArray.size false).getD n true = false := by
          rw [Array.getD_eq_getD_getElem?, Array.getElem?_replicate, if_pos (by simp; omega)]; rfl
        rw [if_neg (by rw [this]; decide)]
    simpa using this l.length (Nat.le_refl _)
  · exfalso
    rw [Array.getD_eq_getD_getElem?, Array.getElem?_replicate] at hl
    split at hl <;> simp at hl
theorem wp_region_rgp {id : Nat} {l : List Oper} {Q : Exit → Act → World → Prop} {a0 : Act} {w : World} (T : Nat → Value → World → Prop) (R : World → World → Prop) (I : Nat → World → Prop)
    (n1 : Nat) (hm : P.follows .mixedOrders = true) (hB : rgC l a0.tmps.size = true) (hC : cloB l n1 = true) (hRr : ∀ a, R a a) (hRt : ∀ a b c, R a b → R b c → R a c) (hTs : ∀ k v a b, T k v a → R a b → T k v b) (hI0 : I 0 w.drew)
    (hops : opsOK P l T R I a0 w.drew (l.take n1) 0) (hfin : ∀ w', R w.drew w' → I n1 w' → finP T w' (fun a' => wpAny P .any l.toArray Q (l.length - n1) (listedTo n1 0 (Array.replicate l.toArray.size false)) a' w') (l.take n1) 0 a0) : (Code.region id l.toArray true).wp P Q a0 w := wp_region_any hm (wpAny_rgp T R I n1 hB hC hRr hRt hTs hI0 hops hfin)
end
end Go.Proofs.YtgdkionmeacalabGreat
end
section
namespace Go.Proofs.YtgdkionmeacalabGreat
open Go.RowKit
set_option linter.unusedVariables false
set_option maxHeartbeats 1000000
/-- a widget -/
structure Nd where
  pa : Int
  ww : Int
  hh : Int
  ke : Bool
  ki : Int
  cs : List Ln
  rs : List Ln
  pk : Pk
  ce : Ce
  pl : Plc
/-- a widget and where its lines lie -/
structure Nr where
  n : Nd
  ca : Option Addr
  cc : Nat
  ra : Option Addr
  rc : Nat
def valsNr (p : Nr) : List Value := [.int .i64 p.n.pa, .int .i64 p.n.ww, .int .i64 p.n.hh, .bool p.n.ke, .int .i64 p.n.ki, .slice p.ca p.n.cs.length p.cc, .slice p.ra p.n.rs.length p.rc, .int .i64 p.n.pk.w, .int .i64 p.n.pk.h, .int .i64 p.n.pk.s, .bool p.n.pk.fx, .bool p.n.pk.fy, .bool p.n.pk.ex, .int .i64 p.n.pk.an, .int .i64 p.n.pk.px, .int .i64 p.n.pk.py, .int .i64 p.n.ce.co, .int .i64 p.n.ce.ro, .int .i64 p.n.ce.mc, .int .i64 p.n.ce.mr, .int .i64 p.n.ce.cw, .int .i64 p.n.ce.ch, .int .i64 p.n.ce.sk, .int .i64 p.n.ce.px, .int .i64 p.n.ce.py, .int .i64 p.n.pl.x, .int .i64 p.n.pl.y, .int .i64 p.n.pl.rx, .int .i64 p.n.pl.ry, .int .i64 p.n.pl.ww, .int .i64 p.n.pl.hh, .int .i64 p.n.pl.qw, .int .i64 p.n.pl.qh, .int .i64 p.n.pl.an]
theorem valsNr_len (p : Nr) : (valsNr p).length = 34 := rfl
theorem valsNr_one (p : Nr) : ∀ v ∈ valsNr p, v.oneCell' = true := by
  intro v hv
  simp only [valsNr, List.mem_cons, List.not_mem_nil, or_false] at hv
  rcases hv with rfl | rfl | rfl | rfl | rfl | rfl | rfl | rfl | rfl | rfl | rfl | rfl | rfl | rfl | rfl | rfl | rfl | rfl | rfl | rfl | rfl | rfl | rfl | rfl | rfl | rfl | rfl | rfl | rfl | rfl | rfl | rfl | rfl | rfl <;> rfl
theorem valsNr_all (p : Nr) : (valsNr p).toArray.all (·.oneCell') = true := all_oneCell_toArray (valsNr_one p)
/-- a slice whose elements are these widgets -/
structure NrV (w : World) (A : Option Addr) (R : List Nr) : Prop where
  cells : 0 < R.length → ∃ b off, A = some ⟨b, off, none⟩ ∧ b < w.heap.size ∧ ∀ i p, R[i]? = some p → w.rangeAt b (off + i * 34) (valsNr p)
theorem rangeB {w w' : World} {b o : Nat} {cs : List Value} (h : w.rangeAt b o cs) (hb : w'.heap[b]? = w.heap[b]?) : w'.rangeAt b o cs := fun j v hj => (World.cell?_of_block (a := ⟨b, o + j, none⟩) hb).trans (h j v hj)
theorem NrV.keep {w w' : World} {A : Option Addr} {R : List Nr} (h : NrV w A R) (hb : Below w.heap.size w w') : NrV w' A R :=
  ⟨fun h0 => let ⟨b, off, e, hl, hp⟩ := h.cells h0; ⟨b, off, e, Nat.lt_of_lt_of_le hl hb.size, fun i p hi => rangeB (hp i p hi) (hb.block b hl)⟩⟩
theorem NrV.nil (w : World) (A : Option Addr) : NrV w A [] := ⟨fun h => absurd h (by simp)⟩
theorem NrV.take {w : World} {A : Option Addr} {R : List Nr} (h : NrV w A R) (k : Nat) : NrV w A (R.take k) :=
  ⟨fun h0 => let ⟨b, off, e, hl, hp⟩ := h.cells (by simp at h0; omega); ⟨b, off, e, hl, fun i p hi => hp i p (by rw [List.getElem?_take] at hi; split at hi <;> first | exact hi | cases hi)⟩⟩
/-- the lines of a widget lie where it says -/
structure RdN (w : World) (p : Nr) : Prop where
  c : LnV w p.ca p.n.cs
  cl : p.n.cs.length ≤ p.cc
  r : LnV w p.ra p.n.rs
  rl : p.n.rs.length ≤ p.rc
theorem RdN.keep {w w' : World} {p : Nr} (h : RdN w p) (hb : Below w.heap.size w w') : RdN w' p := ⟨h.c.keep hb, h.cl, h.r.keep hb, h.rl⟩
def RdR (w : World) (R : List Nr) : Prop := ∀ p ∈ R, RdN w p
theorem RdR.keep {w w' : World} {R : List Nr} (h : RdR w R) (hb : Below w.heap.size w w') : RdR w' R := fun p hp => (h p hp).keep hb
theorem RdR.take {w : World} {R : List Nr} (h : RdR w R) (k : Nat) : RdR w (R.take k) := fun p hp => h p (List.mem_of_mem_take hp)
/-- what a new block of widgets holds -/
def NrB (w : World) (g : Nat) (R : List Nr) : Prop := ∃ cs : Array Value, w.heap[g]? = some (.cells cs 38 (0, 0)) ∧ cs.size = R.length * 34 ∧ ∀ i p, R[i]? = some p → InS cs (i * 34) (valsNr p)
theorem NrB.lt {w : World} {g : Nat} {R : List Nr} (h : NrB w g R) : g < w.heap.size := by obtain ⟨cs, hh, _⟩ := h; exact ltS hh
theorem NrB.keep {w w' : World} {g : Nat} {R : List Nr} (h : NrB w g R) (hb : Below w.heap.size w w') : NrB w' g R := by
  obtain ⟨cs, hh, hs, hc⟩ := h
  exact ⟨cs, (hb.block g (ltS hh)).trans hh, hs, hc⟩
theorem NrB.but {w w' : World} {g h : Nat} {R : List Nr} (hi : NrB w h R) (hg : w.grownBy w' (some g)) (hne : h ≠ g) : NrB w' h R := by
  obtain ⟨cs, hh, hs, hc⟩ := hi
  exact ⟨cs, (hg.block h (ltS hh) (fun e => hne (Option.some.inj e))).trans hh, hs, hc⟩
theorem NrB.v {w : World} {g : Nat} {R : List Nr} (h : NrB w g R) : NrV w (some ⟨g, 0, none⟩) R := by
  obtain ⟨cs, hh, hs, hc⟩ := h
  refine ⟨fun _ => ⟨g, 0, rfl, ltS hh, fun i p hp j v hj => ?_⟩⟩
  simp only [Nat.zero_add]
  exact (cellS hh _).trans (hc i p hp j v hj)
/-- a variable that holds a widget -/
theorem nodeAt {w : World} {b : Nat} {p : Nr} {T : TypeId} {fz : Nat × Nat} (h : w.heap[b]? = some (.cells (valsNr p).toArray T fz)) : w.rangeAt b 0 (valsNr p) := fun j v hj => by
  rw [Nat.zero_add]
  exact (cellS h j).trans (by simpa using hj)
theorem heap_setCells {g : Nat} {T : TypeId} {fz : Nat × Nat} : ∀ (vs : List Value) (o : Nat) (w : World) (cs : Array Value), w.heap[g]? = some (.cells cs T fz) → (w.setCells g o vs).heap[g]? = some (.cells (wrAt cs o vs) T fz)
  | [], o, w, cs, h => h
  | v :: r, o, w, cs, h => heap_setCells r (o + 1) (w.setCell ⟨g, o, none⟩ v) (cs.setIfInBounds o v) (putS h v)
theorem heap_setCells_ne {g k : Nat} (hk : k ≠ g) : ∀ (vs : List Value) (o : Nat) (w : World), (w.setCells g o vs).heap[k]? = w.heap[k]?
  | [], o, w => rfl
  | v :: r, o, w => (heap_setCells_ne hk r (o + 1) (w.setCell ⟨g, o, none⟩ v)).trans (Below.heap_setCell w ⟨g, o, none⟩ v k hk)
theorem below_setCells {B g : Nat} {a : World} (hg : B ≤ g) : ∀ (vs : List Value) (o : Nat) (w : World), Below B a w → Below B a (w.setCells g o vs)
  | [], o, w, h => h
  | v :: r, o, w, h => below_setCells hg r (o + 1) _ (h.setCell (p := ⟨g, o, none⟩) hg v)
theorem size_setCellsT (g : Nat) : ∀ (vs : List Value) (o : Nat) (w : World), (w.setCells g o vs).heap.size = w.heap.size
  | [], o, w => rfl
  | v :: r, o, w => (size_setCellsT g r (o + 1) _).trans (by simp [World.setCell])
theorem grown_setCells {g : Nat} {a : World} : ∀ (vs : List Value) (o : Nat) (w : World), a.grownBy w (some g) → a.grownBy (w.setCells g o vs) (some g)
  | [], o, w, h => h
  | v :: r, o, w, h => grown_setCells r (o + 1) _ (gsetS h o v)
theorem thereB {w : World} {b : Nat} {cs : Array Value} {T : TypeId} (h : w.heap[b]? = some (.cells cs T (0, 0))) {o n : Nat} (hn : o + n ≤ cs.size) : w.there b o n := fun j hj => by
  refine ⟨?_, frozenS h _⟩
  rw [cellS h]
  simp; omega
theorem ldN {ops : Array Oper} {rest : List Oper} {op : Oper} {a : Act} {w : World} {Q : Exit → Act → World → Prop} (x : Operand) (p : Nr) (b o : Nat) (hgd : op.guard = none) (ho : op.op = .load 38 x) (hx : a.eval x = .pointer (some ⟨b, o, none⟩)) (hc : w.rangeAt b o (valsNr p))
    (h : wpList Tryz.prog ops Q rest (a.put op.dst (.agg (valsNr p).toArray)) w) : wpList Tryz.prog ops Q (op :: rest) a w :=
  wpList_load_mid hgd _ x ho b o hx _ _ hc Tryz.underlying38 rfl (by kernel_rfl) h
theorem stN {ops : Array Oper} {rest : List Oper} {op : Oper} {a : Act} {w : World} {Q : Exit → Act → World → Prop} {cs : Array Value} {T : TypeId} (x y : Operand) (p : Nr) (b o : Nat) (hgd : op.guard = none) (ho : op.op = .store 38 x y) (hx : a.eval x = .pointer (some ⟨b, o, none⟩)) (hy : a.eval y = .agg (valsNr p).toArray) (hb : w.heap[b]? = some (.cells cs T (0, 0))) (hn : o + 34 ≤ cs.size)
    (h : wpList Tryz.prog ops Q rest (a.put op.dst undef) (w.setCells b o (valsNr p))) : wpList Tryz.prog ops Q (op :: rest) a w :=
  wpList_store_mid hgd _ x y ho b o _ hx hy (thereB hb hn) (by kernel_rfl) (valsNr_all p) h
theorem ldW {P : Program} {ops : Array Oper} {rest : List Oper} {op : Oper} {a : Act} {w : World} {Q : Exit → Act → World → Prop} (T : TypeId) (x : Operand) (cs : List Value) (b o : Nat) {d : TypeDesc} (ho : op.op = .load T x) (hw : Region.wanted op (yielded ops a.tmps) = true) (hx : a.eval x = .pointer (some ⟨b, o, none⟩))
    (hu : P.underlying T = some d) (hd : d.isRow = true) (hi : (P.info? T).map (·.size) = some cs.length) (hc : w.rangeAt b o cs) (h : wpList P ops Q rest (a.put op.dst (.agg cs.toArray)) w) : wpList P ops Q (op :: rest) a w :=
  BigFrame.wpList_want hw fun K hK => wp_load_mid T x ho b o hx cs d hc hu hd hi (hK _ _ h)
theorem grow_loadM {P : Program} {ops : Array Oper} {o : Oper} {a : Act} {w : World} {K : Act → Prop} (T : TypeId) (x : Operand) (cs : List Value) (b off : Nat) {d : TypeDesc} (ho : o.op = .load T x) (hw : Region.wanted o (yielded ops a.tmps) = true) (hx : a.eval x = .pointer (some ⟨b, off, none⟩))
    (hu : P.underlying T = some d) (hd : d.isRow = true) (hi : (P.info? T).map (·.size) = some cs.length) (hc : ∀ w', Gr w w' → w'.rangeAt b off cs) (hK : K (a.put o.dst (.agg cs.toArray))) : ∃ v, GrowIn P ops o v a w ∧ K (a.put o.dst v) :=
  grow_run _ hw (fun w' hw' => by
    unfold execOp
    simp only [ho, hx, Instr.loadAt, Instr.sureAddr, Sem.run_bind, Sem.run_pure, Result.andThen_ok, run_loadVar_mid w' b off T cs d (hc w' hw') hu hd hi]
    exact ⟨rfl, rfl⟩) hK
theorem grow_ldN {ops : Array Oper} {o : Oper} {a : Act} {w : World} {K : Act → Prop} (x : Operand) (p : Nr) (b off : Nat) (ho : o.op = .load 38 x) (hw : Region.wanted o (yielded ops a.tmps) = true) (hx : a.eval x = .pointer (some ⟨b, off, none⟩))
    (hl : b < w.heap.size) (hc : w.rangeAt b off (valsNr p)) (hK : K (a.put o.dst (.agg (valsNr p).toArray))) : ∃ v, GrowIn Tryz.prog ops o v a w ∧ K (a.put o.dst v) :=
  grow_loadM 38 x (valsNr p) b off ho hw hx Tryz.underlying38 rfl (by kernel_rfl) (fun w' hw' => rangeB hc (hw'.out.block b hl)) hK
end Go.Proofs.YtgdkionmeacalabGreat
end
section
namespace Go.Proofs.YtgdkionmeacalabGreat
open Go.RowKit
set_option linter.unusedVariables false
set_option maxHeartbeats 1000000
attribute [local go_sem] growUpon_value growUpon_skip growUpon_enter
def szL : List Nr → Nat
  | [] => 0
  | p :: t => p.n.cs.length + p.n.rs.length + szL t
end Go.Proofs.YtgdkionmeacalabGreat
end
