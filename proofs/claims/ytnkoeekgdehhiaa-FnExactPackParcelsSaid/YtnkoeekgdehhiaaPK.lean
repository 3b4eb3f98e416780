import Derived.Test.YtnkoeekgdehhiaaPI
import Derived.Test.YtnkoeekgdehhiaaMath7
import Derived.Test.YtnkoeekgdehhiaaD7
namespace Go.Proofs.Ytnkoeekgdehhiaa
open Go.RowKit
set_option linter.unusedVariables false
set_option maxHeartbeats 1000000
attribute [local go_sem 5000] run_mx run_mn
attribute [local go_sem] growUpon_value growUpon_skip growUpon_enter
theorem PV.drop {w : World} {L : List Pk} {b off k : Nat} (h : PS w b off L) (hb : b < w.heap.size) : PV w (some ⟨b, off + k * 9, none⟩) (L.drop k) :=
  ⟨fun _ => ⟨b, off + k * 9, rfl, hb, fun i p hp => by
    rw [List.getElem?_drop] at hp
    have := h (k + i) p hp
    rwa [show off + (k + i) * 9 = off + k * 9 + i * 9 from by rw [Nat.add_mul, Nat.add_assoc]] at this⟩⟩
theorem cut_v (z : Rc) (s n : Int) (w : World) (hz : z.ok = true) (hs : 0 ≤ s) (hs' : s ≤ 3) (hn : 0 ≤ n) :
    Calls Try.prog 58 #[.agg #[.int .i64 (z.x), .int .i64 (z.y), .int .i64 (z.u), .int .i64 (z.v)], .int .i64 s, .int .i64 n] w fun e w' => e = .returned (.tuple #[.agg #[.int .i64 ((cutP z s n).1.x), .int .i64 ((cutP z s n).1.y), .int .i64 ((cutP z s n).1.u), .int .i64 ((cutP z s n).1.v)], .agg #[.int .i64 ((cutP z s n).2.x), .int .i64 ((cutP z s n).2.y), .int .i64 ((cutP z s n).2.u), .int .i64 ((cutP z s n).2.v)]]) ∧ Below w.heap.size w w' := by
  have h : s = 0 ∨ s = 1 ∨ s = 2 ∨ s = 3 := by omega
  rcases h with rfl | rfl | rfl | rfl
  · exact cut0_any z.x z.y z.u z.v n w hz hn
  · exact cut1_any z.x z.y z.u z.v n w hz hn
  · exact cut2_any z.x z.y z.u z.v n w hz hn
  · exact cut3_any z.x z.y z.u z.v n w hz hn
theorem size_v (z : Rc) (d : Bool) (w : World) : Calls Try.prog 57 #[.agg #[.int .i64 (z.x), .int .i64 (z.y), .int .i64 (z.u), .int .i64 (z.v)], .bool d] w fun e w' => e = .returned (.int .i64 (z.size d)) ∧ Below w.heap.size w w' := by
  cases d
  all_goals
    go_enter Try.func57, Try.ntmps57
    go_wp2
    go_ret
    exact ⟨rfl, balloc (Below.refl _ _)⟩
theorem moreOf_no {L : List Pk} {p : Pk} {r : List Pk} {z : Rc} (e : L = p :: r) (h : p.ex = false) : moreOf L z = 0 := by subst e; simp [moreOf, h]
theorem moreOf_yes {L : List Pk} {p : Pk} {r : List Pk} {z : Rc} (e : L = p :: r) (h : p.ex = true) : moreOf L z = shareGo L p.down (z.size p.down) (z.size p.down) 0 := by subst e; simp [moreOf, h]
theorem cells4 {w : World} {b : Nat} {a0 a1 a2 a3 : Value} {T : TypeId} {fz : Nat × Nat} (h : w.heap[b]? = some (.cells #[a0, a1, a2, a3] T fz)) :
    w.cell? ⟨b, 0, none⟩ = some a0 ∧ w.cell? ⟨b, 1, none⟩ = some a1 ∧ w.cell? ⟨b, 2, none⟩ = some a2 ∧ w.cell? ⟨b, 3, none⟩ = some a3 := ⟨cellH h 0, cellH h 1, cellH h 2, cellH h 3⟩
set_option maxRecDepth 100000 in
/-- the closure of packParcels -/
theorem share1_v (b off c lf : Nat) (L : List Pk) (p : Pk) (r : List Pk) (z : Rc) (w : World) (e0 : L = p :: r) (h : PV w (some ⟨b, off, none⟩) L) (hL : vpsB L = true) (hz : z.ok = true)
    (hl : w.heap[lf]? = some (.cells #[.int .i64 z.x, .int .i64 z.y, .int .i64 z.u, .int .i64 z.v] 37 (0, 0))) :
    Calls Try.prog 55 #[.slice (some ⟨b, off, none⟩) L.length c, .pointer (some ⟨lf, 0, none⟩)] w fun e w' => e = .returned (.int .i64 (moreOf L z)) ∧ Below w.heap.size w w' := by
  obtain ⟨b', off', eA, hb, hc⟩ := first_cells h e0
  injection eA with eA
  injection eA with e1 e2
  subst e1 e2
  have hlf := (Array.getElem?_eq_some_iff.1 hl).1
  obtain ⟨sb1, sb2⟩ := Rc.size_bd hz p.down
  have HL := Lib.hid hl
  have HV := Lib.hid hL
  have hlp : 0 < L.length := by rw [e0]; simp
  have HE := Lib.hid e0
  have HH := Lib.hid h
  obtain ⟨l0, l1, l2, l3⟩ := cells4 hl
  have hne := Nat.ne_of_lt hlf
  obtain ⟨c0, c1, c2, c3, c4, c5, c6, c7, c8⟩ := hc
  clear hl h hL e0
  cases hx : p.ex
  · have HM := Lib.hid (moreOf_no (z := z) HE.out hx)
    rw [hx] at c5
    clear hx
    go_enter Try.func55, Try.ntmps55
    go_wp2
    go_ret
    exact ⟨ret_int HM.out.symm, balloc (Below.refl _ _)⟩
  · have HM := Lib.hid (moreOf_yes (z := z) HE.out hx)
    have HX := Lib.hid hx
    rw [hx] at c5
    clear hx
    go_enter Try.func55, Try.ntmps55
    go_wp2_with fail
    refine wp_region_grow 8 1 (· < 8) (by kernel_rfl) (by kernel_rfl) rfl ?_
    iterate 8 (refine wpG_step (fun K hK => ?_); apply Exists.intro; refine ⟨.inl ⟨rfl, fun w' hw' => ?_⟩, ?_⟩; (focus ((obtain ⟨hc, hf⟩ := bcell hw'.out); (have hcS := bcellS hw'.out); go_simp <;> first | rfl | (go_at_call 49; exact isDown_x p _ _) | (go_at_call 57; exact size_v z _ _) | (go_at_call 56; exact expandShare_v _ c L _ _ _ (HH.out.keep (bkeep2 (Below.drew (balloc (Below.refl _ _))) hw'.out)) HV.out p r HE.out rfl HX.out sb1 sb2))); (go_simp; refine hK _ ?_; clear hK K))
    refine wpG_nil ?_
    refine wpK_tail (by kernel_rfl) (fun w1 hg1 => ?_)
    refine wpAny_one (i := 8) (by kernel_rfl) rfl rfl ?_
    go_simp
    refine wpAny_end (by kernel_rfl) ?_
    refine NoPan.thn ?_
    have HB := Lib.hid (bkeep2 (Below.drew (balloc (Below.refl _ _))) hg1.out)
    clear hg1 c0 c1 c2 c3 c4 c5 c6 c7 c8 l0 l1 l2 l3
    go_wp2
    go_ret
    exact ⟨ret_int HM.out.symm, HB.out⟩
end Go.Proofs.Ytnkoeekgdehhiaa
