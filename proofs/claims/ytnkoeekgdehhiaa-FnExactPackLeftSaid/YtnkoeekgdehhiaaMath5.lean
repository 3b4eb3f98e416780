import Derived.Test.YtnkoeekgdehhiaaMath4
set_option linter.unusedVariables false
namespace Go.Proofs.Ytnkoeekgdehhiaa
def Pk.ok (p : Pk) : Bool := vpB p.w p.h p.s p.an p.px p.py
def vpsB (L : List Pk) : Bool := L.all Pk.ok && decide (L.length ≤ 7)
theorem vpsB_iff {L : List Pk} : vpsB L = true ↔ (∀ p ∈ L, p.ok = true) ∧ L.length ≤ 7 := by simp [vpsB, List.all_eq_true]
def Pk.down (p : Pk) : Bool := decide (p.s = 0 ∨ p.s = 1)
def Pk.need (p : Pk) (d : Bool) : Int := if d then p.h + 2 * p.py else p.w + 2 * p.px
theorem Pk.need_bd {p : Pk} (h : p.ok = true) (d : Bool) : 0 ≤ p.need d ∧ p.need d ≤ 50 := by
  have := vpB_iff.1 h
  unfold Pk.need
  split <;> omega
theorem all_snoc {L : List Pk} {k : Nat} {p : Pk} (h : L[k]? = some p) : (L.take (k + 1)).all Pk.ok = ((L.take k).all Pk.ok && p.ok) := by
  have hk : k < L.length := (List.getElem?_eq_some_iff.1 h).1
  have e : L[k] = p := (List.getElem?_eq_some_iff.1 h).2
  rw [List.take_succ_eq_append_getElem hk, e]
  simp
end Go.Proofs.Ytnkoeekgdehhiaa
