import Derived.Test.YtnkoeekgdehhiaaMath
set_option linter.unusedVariables false
namespace Go.Proofs.Ytnkoeekgdehhiaa
/-- an item that is packed -/
structure Pk where
  w : Int
  h : Int
  s : Int
  fx : Bool
  fy : Bool
  ex : Bool
  an : Int
  px : Int
  py : Int
/-- it is valid -/
def vpB (w h s an px py : Int) : Bool := rng w 0 30 && (rng h 0 30 && (rng s 0 3 && (rng an 0 8 && (rng px 0 10 && rng py 0 10))))
theorem vpB_iff {w h s an px py : Int} : vpB w h s an px py = true ↔ ((0 ≤ w ∧ w ≤ 30) ∧ (0 ≤ h ∧ h ≤ 30) ∧ (0 ≤ s ∧ s ≤ 3) ∧ (0 ≤ an ∧ an ≤ 8) ∧ (0 ≤ px ∧ px ≤ 10) ∧ (0 ≤ py ∧ py ≤ 10)) := by
  simp only [vpB, Bool.and_eq_true, rng_iff]
theorem vp_n1 {w h s an px py : Int} (h1 : rng w 0 30 = false) : vpB w h s an px py = false := by simp [vpB, h1]
theorem vp_n2 {w h s an px py : Int} (h1 : rng h 0 30 = false) : vpB w h s an px py = false := by simp [vpB, h1]
theorem vp_n3 {w h s an px py : Int} (h1 : rng s 0 3 = false) : vpB w h s an px py = false := by simp [vpB, h1]
theorem vp_n4 {w h s an px py : Int} (h1 : rng an 0 8 = false) : vpB w h s an px py = false := by simp [vpB, h1]
theorem vp_n5 {w h s an px py : Int} (h1 : rng px 0 10 = false) : vpB w h s an px py = false := by simp [vpB, h1]
theorem vp_n6 {w h s an px py : Int} (h1 : rng w 0 30 = true) (h2 : rng h 0 30 = true) (h3 : rng s 0 3 = true) (h4 : rng an 0 8 = true) (h5 : rng px 0 10 = true) : vpB w h s an px py = rng py 0 10 := by simp [vpB, h1, h2, h3, h4, h5]
end Go.Proofs.Ytnkoeekgdehhiaa
