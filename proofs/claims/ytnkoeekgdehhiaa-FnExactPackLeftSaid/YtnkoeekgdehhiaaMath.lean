/- Plain functions on integers for chapter 1. -/
set_option linter.unusedVariables false
namespace Go.Proofs.Ytnkoeekgdehhiaa
/-- a valid rectangle -/
def vr (x y w h : Int) : Bool := decide (0 ≤ w ∧ w ≤ 400 ∧ 0 ≤ h ∧ h ≤ 400 ∧ -1000 ≤ x ∧ x + w ≤ 1000 ∧ -1000 ≤ y ∧ y + h ≤ 1000)
def vs (a s : Int) : Bool := decide (-1000 ≤ a ∧ 0 ≤ s ∧ s ≤ 400 ∧ a + s ≤ 1000)
def rng (n a b : Int) : Bool := decide (a ≤ n ∧ n ≤ b)
theorem vr_iff {x y w h : Int} : vr x y w h = true ↔ (0 ≤ w ∧ w ≤ 400 ∧ 0 ≤ h ∧ h ≤ 400 ∧ -1000 ≤ x ∧ x + w ≤ 1000 ∧ -1000 ≤ y ∧ y + h ≤ 1000) := by simp [vr]
theorem vr_not {x y w h : Int} : vr x y w h = false ↔ ¬ (0 ≤ w ∧ w ≤ 400 ∧ 0 ≤ h ∧ h ≤ 400 ∧ -1000 ≤ x ∧ x + w ≤ 1000 ∧ -1000 ≤ y ∧ y + h ≤ 1000) := by
  unfold vr; exact decide_eq_false_iff_not
theorem rng_iff {n a b : Int} : rng n a b = true ↔ (a ≤ n ∧ n ≤ b) := by simp [rng]
theorem rng_not {n a b : Int} : rng n a b = false ↔ ¬ (a ≤ n ∧ n ≤ b) := by unfold rng; exact decide_eq_false_iff_not
theorem vs_iff {a s : Int} : vs a s = true ↔ (-1000 ≤ a ∧ 0 ≤ s ∧ s ≤ 400 ∧ a + s ≤ 1000) := by simp [vs]
theorem vs_not {a s : Int} : vs a s = false ↔ ¬ (-1000 ≤ a ∧ 0 ≤ s ∧ s ≤ 400 ∧ a + s ≤ 1000) := by unfold vs; exact decide_eq_false_iff_not
theorem vs_no1 {a s : Int} (h : rng a (-1000) 1000 = false) : vs a s = false := by rw [rng_not] at h; rw [vs_not]; omega
theorem vs_no2 {a s : Int} (h : rng s 0 400 = false) : vs a s = false := by rw [rng_not] at h; rw [vs_not]; omega
theorem vr_vs {x y u v : Int} (h : vs x u = true) : vr x y u v = vs y v := by
  rw [vs_iff] at h; rw [Bool.eq_iff_iff, vr_iff, vs_iff]; omega
theorem vr_no_vs {x y u v : Int} (h : vs x u = false) : vr x y u v = false := by
  rw [vs_not] at h; rw [vr_not]; omega
end Go.Proofs.Ytnkoeekgdehhiaa
namespace Go.Proofs.Ytnkoeekgdehhiaa
theorem vr_sp1 {x y u v : Int} (h1 : rng u 0 400 = true) (h2 : rng v 0 400 = true) (h3 : rng x (-1000) (1000 - u) = true) : vr x y u v = rng y (-1000) (1000 - v) := by
  rw [rng_iff] at *; rw [Bool.eq_iff_iff, vr_iff, rng_iff]; omega
theorem vr_sp2 {x y u v : Int} (h1 : rng u 0 400 = true) (h2 : rng v 0 400 = true) (h3 : rng x (-1000) (1000 - u) = false) : vr x y u v = false := by
  rw [rng_iff] at *; rw [rng_not] at h3; rw [vr_not]; omega
theorem vr_sp3 {x y u v : Int} (h2 : rng v 0 400 = false) : vr x y u v = false := by
  rw [rng_not] at h2; rw [vr_not]; omega
theorem vr_sp4 {x y u v : Int} (h2 : rng u 0 400 = false) : vr x y u v = false := by
  rw [rng_not] at h2; rw [vr_not]; omega
end Go.Proofs.Ytnkoeekgdehhiaa
namespace Go.Proofs.Ytnkoeekgdehhiaa
def mx (a b : Int) : Int := if b > a then b else a
def mn (a b : Int) : Int := if b < a then b else a
theorem mx_spec (a b : Int) : a ≤ mx a b ∧ b ≤ mx a b ∧ (mx a b = a ∨ mx a b = b) := by unfold mx; split <;> omega
theorem mn_spec (a b : Int) : mn a b ≤ a ∧ mn a b ≤ b ∧ (mn a b = a ∨ mn a b = b) := by unfold mn; split <;> omega
theorem mx_bd {a b : Int} (l u : Int) (h1 : l ≤ a) (h2 : l ≤ b) (h3 : a ≤ u) (h4 : b ≤ u) : l ≤ mx a b ∧ mx a b ≤ u := by have := mx_spec a b; omega
theorem mn_bd {a b : Int} (l u : Int) (h1 : l ≤ a) (h2 : l ≤ b) (h3 : a ≤ u) (h4 : b ≤ u) : l ≤ mn a b ∧ mn a b ≤ u := by have := mn_spec a b; omega
end Go.Proofs.Ytnkoeekgdehhiaa
namespace Go.Proofs.Ytnkoeekgdehhiaa
/-- four small numbers -/
def Sm (a b c d : Int) : Prop := (-8000 ≤ a ∧ a ≤ 8000) ∧ (-8000 ≤ b ∧ b ≤ 8000) ∧ (-8000 ≤ c ∧ c ≤ 8000) ∧ (-8000 ≤ d ∧ d ≤ 8000)
theorem Sm_of {a b c d : Int} (h : (-8000 ≤ a ∧ a ≤ 8000) ∧ (-8000 ≤ b ∧ b ≤ 8000) ∧ (-8000 ≤ c ∧ c ≤ 8000) ∧ (-8000 ≤ d ∧ d ≤ 8000)) : Sm a b c d := h
theorem Sm.out {a b c d : Int} (h : Sm a b c d) : (-8000 ≤ a ∧ a ≤ 8000) ∧ (-8000 ≤ b ∧ b ≤ 8000) ∧ (-8000 ≤ c ∧ c ≤ 8000) ∧ (-8000 ≤ d ∧ d ≤ 8000) := h
theorem Sm_vr {x y u v : Int} (h : vr x y u v = true) : Sm x y u v := by rw [vr_iff] at h; apply Sm_of; omega
end Go.Proofs.Ytnkoeekgdehhiaa
namespace Go.Proofs.Ytnkoeekgdehhiaa
def hitB (x y u v x' y' u' v' : Int) : Bool := decide (0 < mn (x + u) (x' + u') - mx x x' ∧ 0 < mn (y + v) (y' + v') - mx y y')
theorem hitB_iff {x y u v x' y' u' v' : Int} : hitB x y u v x' y' u' v' = true ↔ (0 < mn (x + u) (x' + u') - mx x x' ∧ 0 < mn (y + v) (y' + v') - mx y y') := by simp only [hitB, decide_eq_true_eq]
theorem hitB_not {x y u v x' y' u' v' : Int} : hitB x y u v x' y' u' v' = false ↔ (mn (x + u) (x' + u') - mx x x' ≤ 0 ∨ mn (y + v) (y' + v') - mx y y' ≤ 0) := by
  unfold hitB; rw [decide_eq_false_iff_not]; omega
theorem meet_bds {x y u v x' y' u' v' : Int} (h1 : vr x y u v = true) (h2 : vr x' y' u' v' = true) : -1000 ≤ mx x x' ∧ mx x x' ≤ 1000 ∧ -1000 ≤ mx y y' ∧ mx y y' ≤ 1000 ∧ -1000 ≤ mn (x + u) (x' + u') ∧ mn (x + u) (x' + u') ≤ 1000 ∧ -1000 ≤ mn (y + v) (y' + v') ∧ mn (y + v) (y' + v') ≤ 1000 := by
  rw [vr_iff] at h1 h2
  obtain ⟨m1, m2⟩ := mx_bd (a := x) (b := x') (-1000) 1000 (by omega) (by omega) (by omega) (by omega)
  obtain ⟨m3, m4⟩ := mx_bd (a := y) (b := y') (-1000) 1000 (by omega) (by omega) (by omega) (by omega)
  obtain ⟨m5, m6⟩ := mn_bd (a := x + u) (b := x' + u') (-1000) 1000 (by omega) (by omega) (by omega) (by omega)
  obtain ⟨m7, m8⟩ := mn_bd (a := y + v) (b := y' + v') (-1000) 1000 (by omega) (by omega) (by omega) (by omega)
  exact ⟨m1, m2, m3, m4, m5, m6, m7, m8⟩
end Go.Proofs.Ytnkoeekgdehhiaa
namespace Go.Proofs.Ytnkoeekgdehhiaa
def eqR (x y u v x' y' u' v' : Int) : Bool := decide (x = x' ∧ y = y' ∧ u = u' ∧ v = v')
theorem eqR_iff {x y u v x' y' u' v' : Int} : eqR x y u v x' y' u' v' = true ↔ (x = x' ∧ y = y' ∧ u = u' ∧ v = v') := by simp only [eqR, decide_eq_true_eq]
theorem eqR_not {x y u v x' y' u' v' : Int} : eqR x y u v x' y' u' v' = false ↔ ¬ (x = x' ∧ y = y' ∧ u = u' ∧ v = v') := by unfold eqR; exact decide_eq_false_iff_not
theorem eqR_self {x y u v : Int} : eqR x y u v x y u v = true := by simp [eqR]
end Go.Proofs.Ytnkoeekgdehhiaa
