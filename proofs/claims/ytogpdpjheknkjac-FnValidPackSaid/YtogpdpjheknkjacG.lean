import Derived.Test.YtogpdpjheknkjacRows
import Derived.Test.YtogpdpjheknkjacV
import Derived.WalkKit
import Derived.Lib.Hide
import Derived.Outline
import Derived.RegionTactic
import Derived.Deep.QuietTactic
import Derived.BigQuiet
import Derived.IntWalk
import Derived.Deep.Cut
import Derived.Laws.Bits64
namespace Go.Proofs.Ytogpdpjheknkjac
open Go.RowKit
set_option linter.unusedVariables false
set_option maxHeartbeats 1000000
theorem ret_i {k : IntKind} {a b : Int} (h : a = b) : Ending.returned (.int k a) = .returned (.int k b) := by rw [h]
theorem wp_genG {P : Program} {c : Code} {Q : Exit → Act → World → Prop} {a : Act} {W : World} (F : World → Prop) (hF : F W) (h : ∀ W0, F W0 → c.wp P Q a W0) : c.wp P Q a W := h W hF
section
variable {B rb : Nat} {A : Option Addr} {n c m : Nat} {w w' : World}
theorem Rd.cells (h : Rd B rb A n c m w) : ∃ p : Nat, p ≤ m ∧ w.cell? ⟨rb, 0, none⟩ = some (.slice A n c) ∧ w.cell? ⟨rb, 1, none⟩ = some (.int .i64 p) ∧ w.frozen? ⟨rb, 1, none⟩ = false := by
  obtain ⟨p, hp, hh⟩ := h.box
  exact ⟨p, hp, by simp [World.cell?, hh], by simp [World.cell?, hh], by simp [World.frozen?, hh]⟩
theorem Rd.step (h : Rd B rb A n c m w) {p : Nat} (hp : p ≤ m) (hc : w.cell? ⟨rb, 1, none⟩ = some (.int .i64 p)) : Rd B rb A n c (m + 1) (w.setCell ⟨rb, 1, none⟩ (.int .i64 (p + 1))) := by
  obtain ⟨p', hp', hh⟩ := h.box
  have : p' = p := by
    simp [World.cell?, hh] at hc
    exact_mod_cast hc
  subst this
  refine ⟨h.base, h.len, ⟨p' + 1, by omega, ?_⟩, fun hn => ?_⟩
  · simp [World.setCell, Array.getElem?_modify, hh]
  · obtain ⟨ad, e, hb, hcell⟩ := h.bytes hn
    refine ⟨ad, e, hb, fun i hi => ?_⟩
    obtain ⟨z, z0, z1, hz⟩ := hcell i hi
    exact ⟨z, z0, z1, (World.cell?_of_block (Below.heap_setCell _ _ _ _ (by rw [block_add]; have := h.base; simp; omega))).trans hz⟩
end
theorem xor_nat (a b : Nat) (ha : a < 9223372036854775808) (hb : b < 9223372036854775808) : bits .xor .i64 (a : Int) (b : Int) = ((a ^^^ b : Nat) : Int) := by
  have hx : a ^^^ b < 2 ^ 63 := Nat.xor_lt_two_pow (by omega) (by omega)
  have h1 : (BitVec.ofInt 64 (a : Int)).toNat = a := by
    rw [BitVec.ofInt_natCast, BitVec.toNat_ofNat]; exact Nat.mod_eq_of_lt (by omega)
  have h2 : (BitVec.ofInt 64 (b : Int)).toNat = b := by
    rw [BitVec.ofInt_natCast, BitVec.toNat_ofNat]; exact Nat.mod_eq_of_lt (by omega)
  show IntKind.i64.wrap ((BitVec.ofInt 64 (a : Int) ^^^ BitVec.ofInt 64 (b : Int)).toNat : Int) = _
  rw [BitVec.toNat_xor, h1, h2]
  exact IntWalk.i64_in _ (by omega)
theorem xor_ex (x y : Int) (h1 : 0 ≤ x) (h2 : x < 1000000000000) (h3 : 0 ≤ y) (h4 : y < 1000000000000) : ∃ v, bits .xor .i64 x y = v ∧ 0 ≤ v := by
  obtain ⟨a, rfl⟩ := Int.eq_ofNat_of_zero_le h1
  obtain ⟨b, rfl⟩ := Int.eq_ofNat_of_zero_le h3
  exact ⟨_, xor_nat a b (by omega) (by omega), by omega⟩
theorem pick_lo {B rb : Nat} {A : Option Addr} {l c m : Nat} (n : Int) (w : World) (h : Rd B rb A l c m w) (hm : m ≤ 1000000) (hn : n < 1) :
    Calls Try.prog 44 #[.pointer (some ⟨rb, 0, none⟩), .int .i64 n] w fun e w' => e = .returned (.int .i64 0) ∧ Rd B rb A l c (m + 1) w' ∧ Chg [rb] w w' := by
  obtain ⟨p, hp, c0, c1, f1⟩ := h.cells
  have hst := h.step hp c1
  have hch : Chg [rb] w (w.setCell ⟨rb, 1, none⟩ (.int .i64 (p + 1))) := Chg.set1 _ _ _ _
  have Hst := Lib.hid hst
  have Hch := Lib.hid hch
  clear hst hch
  go_enter Try.func44, Try.ntmps44
  go_wp2
  go_ret
  exact ⟨rfl, Hst.out, Hch.out⟩
theorem newReader_le (A : Option Addr) (n c : Nat) (w : World) (h : Bts w A n) (hn : n ≤ c) (hc : c ≤ maxLen) :
    Calls Try.prog 34 #[.slice A n c] w fun e w' => ∃ n', n' ≤ n ∧ e = .returned (.pointer (some ⟨w.heap.size, 0, none⟩)) ∧ Rd w.heap.size w.heap.size A n' c 0 w' ∧ Chg [] w w' := by
  unfold maxLen at hc
  by_cases h0 : n ≤ 2000
  · have H := Lib.hid (h.rd (c := c) (Nat.le_refl _) h0)
    clear h
    go_enter Try.func34, Try.ntmps34
    go_wp2
    go_ret
    exact ⟨n, Nat.le_refl _, rfl, H.out, (Chg.refl _ _).alloc _⟩
  · have H := Lib.hid (h.rd (c := c) (k := 2000) (by omega) (by omega))
    clear h
    have h1 : (2000 : Int) < n := by omega
    go_enter Try.func34, Try.ntmps34
    go_wp2
    go_ret
    exact ⟨2000, by omega, rfl, H.out, (Chg.refl _ _).alloc _⟩
theorem newReader_any (A : Option Addr) (n c : Nat) (w : World) (h : Bts w A n) (hn : n ≤ c) (hc : c ≤ maxLen) :
    Calls Try.prog 34 #[.slice A n c] w fun e w' => ∃ n', e = .returned (.pointer (some ⟨w.heap.size, 0, none⟩)) ∧ Rd w.heap.size w.heap.size A n' c 0 w' ∧ Chg [] w w' :=
  (newReader_le A n c w h hn hc).mono fun e w' ⟨n', _, h⟩ => ⟨n', h⟩
/-- the bytes lie below an older size -/
theorem newReader_low {w0 : World} (A : Option Addr) (n c : Nat) (w : World) (h0 : Bts w0 A n) (hs : w0.heap.size ≤ w.heap.size) (h : Bts w A n) (hn : n ≤ c) (hc : c ≤ maxLen) :
    Calls Try.prog 34 #[.slice A n c] w fun e w' => ∃ n', e = .returned (.pointer (some ⟨w.heap.size, 0, none⟩)) ∧ Rd w0.heap.size w.heap.size A n' c 0 w' ∧ Chg [] w w' :=
  (newReader_le A n c w h hn hc).mono fun e w' ⟨n', hle, he, hr, hc⟩ => ⟨n', he, ⟨hs, hr.len, hr.box, fun hn' => by
    obtain ⟨ad, e1, _, hcell⟩ := hr.bytes hn'
    obtain ⟨ad', e2, hb, _⟩ := h0 (by omega)
    rw [e1] at e2
    injection e2 with e2
    subst e2
    exact ⟨ad, e1, hb, hcell⟩⟩, hc⟩
theorem pick_nil {B rb : Nat} {A : Option Addr} {c m : Nat} (n : Int) (w : World) (h : Rd B rb A 0 c m w) (hm : m ≤ 1000000) (hn : 1 ≤ n) :
    Calls Try.prog 44 #[.pointer (some ⟨rb, 0, none⟩), .int .i64 n] w fun e w' => e = .returned (.int .i64 0) ∧ Rd B rb A 0 c (m + 1) w' ∧ Chg [rb] w w' := by
  obtain ⟨p, hp, c0, c1, f1⟩ := h.cells
  have hst := h.step hp c1
  have hch : Chg [rb] w (w.setCell ⟨rb, 1, none⟩ (.int .i64 (p + 1))) := Chg.set1 _ _ _ _
  have Hst := Lib.hid hst
  have Hch := Lib.hid hch
  clear hst hch
  have hd : decide (n < 1) = false := by simp; omega
  go_enter Try.func44, Try.ntmps44
  go_wp2
  go_ret
  exact ⟨rfl, Hst.out, Hch.out⟩
theorem pick_in {B rb : Nat} {A : Option Addr} {l c m : Nat} (n : Int) (w : World) (h : Rd B rb A l c m w) (hm : m ≤ 1000000) (hn : 1 ≤ n) (hl : 0 < l) :
    Calls Try.prog 44 #[.pointer (some ⟨rb, 0, none⟩), .int .i64 n] w fun e w' => (∃ v, e = .returned (.int .i64 v) ∧ 0 ≤ v ∧ v < n) ∧ Rd B rb A l c (m + 1) w' ∧ Chg [rb] w w' := by
  have hlen := h.len
  obtain ⟨ad, rfl, hb, hby⟩ := h.bytes hl
  obtain ⟨p, hp, c0, c1, f1⟩ := h.cells
  have hbase := h.base
  have hst := h.step hp c1
  have hch : Chg [rb] w (w.setCell ⟨rb, 1, none⟩ (.int .i64 (p + 1))) := Chg.set1 _ _ _ _
  have Hst := Lib.hid hst
  have Hch := Lib.hid hch
  clear hst hch
  have hd : decide (n < 1) = false := by simp; omega
  have hl0 : ((l : Int) == 0) = false := by simp; omega
  have hF : ∃ W0 : World, W0 = w.setCell ⟨rb, 1, none⟩ (.int .i64 (p + 1)) ∧ W0.cell? ⟨rb, 0, none⟩ = some (.slice (some ad) l c) ∧ W0.cell? ⟨rb, 1, none⟩ = some (.int .i64 (p + 1)) ∧ (∀ i, i < l → ∃ z : Int, 0 ≤ z ∧ z < 256 ∧ W0.cell? (ad.add i) = some (.int .u8 z)) := by
    obtain ⟨q, hq, g0, g1, g2⟩ := Hst.out.cells
    clear h
    refine ⟨_, rfl, g0, by clear g0 g1 g2; go_simp, fun i hi => ?_⟩
    obtain ⟨ad', e, _, hby'⟩ := Hst.out.bytes hl
    injection e with e
    subst e
    exact hby' i hi
  obtain ⟨W0, hW0, g0, g1, hby0⟩ := hF
  rw [← hW0] at Hst Hch
  have HW := Lib.hid hW0
  clear hW0 h hby
  by_cases hk : p < l
  · have hkk : decide ((p : Int) < (l : Int)) = true := by simpa using hk
    obtain ⟨z, z0, z1, hz⟩ := hby0 p hk
    clear hby0
    go_enter Try.func44, Try.ntmps44
    go_upto_region 2 with (fail)
    rw [← HW.out]
    clear HW c0 c1 f1
    go_wp2
    go_ret
    exact ⟨⟨_, rfl, Int.emod_nonneg _ (by omega), Int.emod_lt_of_pos _ (by omega)⟩, Hst.out, Hch.out⟩
  · have hkk : decide ((p : Int) < (l : Int)) = false := by simp; omega
    have hl1 : ¬ l = 0 := by omega
    obtain ⟨q1, hq1, e1⟩ : ∃ q : Nat, q < l ∧ (p : Int).tmod (l : Int) = (q : Int) := ⟨p % l, Nat.mod_lt _ hl, rfl⟩
    obtain ⟨q2, hq2, e2⟩ : ∃ q : Nat, q < l ∧ ((p : Int) * 7 + 3).tmod (l : Int) = (q : Int) := ⟨(p * 7 + 3) % l, Nat.mod_lt _ hl, rfl⟩
    obtain ⟨q3, hq3, e3⟩ : ∃ q : Nat, q ≤ p ∧ (p : Int).tdiv (l : Int) = (q : Int) := ⟨p / l, Nat.div_le_self _ _, rfl⟩
    obtain ⟨y1, a1, a2, hy1⟩ := hby0 q1 hq1
    obtain ⟨y2, a3, a4, hy2⟩ := hby0 q2 hq2
    clear hby0
    go_enter Try.func44, Try.ntmps44
    go_upto_region 2 with (fail)
    rw [← HW.out]
    clear HW c0 c1 f1
    go_upto_region 7 with (fail)
    go_quiet (fail)
    go_upto_region 8 with (fail)
    have hX : ∃ X : Int, X = y1 * 131 + y2 * 1117 + (p : Int) * 29 + (q3 : Int) * 53 ∧ 0 ≤ X ∧ X < 1000000000000 := ⟨_, rfl, by omega, by omega⟩
    obtain ⟨X, eX, x0, x1⟩ := hX
    rw [← eX]
    clear eX
    obtain ⟨V, eV, v0⟩ := xor_ex X (X / 64) x0 x1 (by omega) (by omega)
    clear e1 e2 e3
    go_wp2
    go_ret
    exact ⟨⟨_, rfl, Int.emod_nonneg _ (by omega), Int.emod_lt_of_pos _ (by omega)⟩, Hst.out.drewN _, Hch.out.drewN _⟩
theorem pick_any {B rb : Nat} {A : Option Addr} {l c m : Nat} (n : Int) (w : World) (h : Rd B rb A l c m w) (hm : m ≤ 1000000) :
    Calls Try.prog 44 #[.pointer (some ⟨rb, 0, none⟩), .int .i64 n] w fun e w' => (∃ v, e = .returned (.int .i64 v) ∧ (1 ≤ n → 0 ≤ v ∧ v < n)) ∧ Rd B rb A l c (m + 1) w' ∧ Chg [rb] w w' := by
  by_cases hn : 1 ≤ n
  · rcases Nat.eq_zero_or_pos l with rfl | hl
    · exact (pick_nil n w h hm hn).mono fun e w' ⟨he, h1, h2⟩ => ⟨⟨0, he, fun _ => ⟨by omega, by omega⟩⟩, h1, h2⟩
    · exact (pick_in n w h hm hn hl).mono fun e w' ⟨⟨v, he, h3⟩, h1, h2⟩ => ⟨⟨v, he, fun _ => h3⟩, h1, h2⟩
  · exact (pick_lo n w h hm (by omega)).mono fun e w' ⟨he, h1, h2⟩ => ⟨⟨0, he, fun h => absurd h hn⟩, h1, h2⟩
end Go.Proofs.Ytogpdpjheknkjac
