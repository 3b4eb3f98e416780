import Derived.Test.YtnkoeekgdehhiaaMath5
set_option linter.unusedVariables false
namespace Go.Proofs.Ytnkoeekgdehhiaa
/-- the share of the first item: what is left of the answer, the room, the count -/
def shareGo : List Pk → Bool → Int → Int → Int → Int
  | [], d, sh, rm, n => mn sh (mx rm 0 / n)
  | p :: r, d, sh, rm, n => if p.down = d then shareGo r d sh (rm - p.need d) (if p.ex then n + 1 else n) else shareGo r d (mn sh (mx (rm - p.need d) 0 / n)) rm n
theorem shareGo_same {p : Pk} {r : List Pk} {d : Bool} {sh rm n : Int} (h : p.down = d) (hx : p.ex = true) : shareGo (p :: r) d sh rm n = shareGo r d sh (rm - p.need d) (n + 1) := by
  rw [shareGo, if_pos h, hx]; rfl
theorem shareGo_plain {p : Pk} {r : List Pk} {d : Bool} {sh rm n : Int} (h : p.down = d) (hx : p.ex = false) : shareGo (p :: r) d sh rm n = shareGo r d sh (rm - p.need d) n := by
  rw [shareGo, if_pos h, hx]; rfl
theorem shareGo_other {p : Pk} {r : List Pk} {d : Bool} {sh rm n : Int} (h : ¬ p.down = d) : shareGo (p :: r) d sh rm n = shareGo r d (mn sh (mx (rm - p.need d) 0 / n)) rm n := by
  rw [shareGo, if_neg h]
def halfI (r n : Int) : Int := if r < 0 then 0 else r / n
theorem halfI_eq {r n : Int} : halfI r n = mx r 0 / n := by
  unfold halfI mx
  by_cases h : r < 0
  · rw [if_pos h, if_pos (by omega), Int.zero_ediv]
  · rw [if_neg h, if_neg (by omega)]
theorem part_bd {r n : Int} (h1 : r ≤ 400) (h2 : 1 ≤ n) : 0 ≤ mx r 0 / n ∧ mx r 0 / n ≤ 400 := by
  have := mx_spec r 0
  have h3 : 0 ≤ mx r 0 := by omega
  refine ⟨Int.ediv_nonneg h3 (by omega), ?_⟩
  have := Int.ediv_le_self n h3
  omega
theorem drop_cons {L : List Pk} {k : Nat} {p : Pk} (h : L[k]? = some p) : L.drop k = p :: L.drop (k + 1) := by
  have hk := (List.getElem?_eq_some_iff.1 h).1
  have e := (List.getElem?_eq_some_iff.1 h).2
  rw [List.drop_eq_getElem_cons hk, e]
theorem shareGo_bd : ∀ {L : List Pk} {d : Bool} {sh rm n : Int}, (∀ p ∈ L, p.ok = true) → 0 ≤ sh → sh ≤ 400 → rm ≤ 400 → 1 ≤ n → 0 ≤ shareGo L d sh rm n ∧ shareGo L d sh rm n ≤ 400
  | [], d, sh, rm, n, _, h1, h2, h3, h4 => by
    have := part_bd h3 h4
    have := mn_spec sh (mx rm 0 / n)
    simp only [shareGo]; omega
  | p :: r, d, sh, rm, n, hL, h1, h2, h3, h4 => by
    have hp := hL p List.mem_cons_self
    have nb := Pk.need_bd hp d
    have hr : ∀ p ∈ r, p.ok = true := fun q hq => hL q (List.mem_cons_of_mem _ hq)
    unfold shareGo
    split
    · exact shareGo_bd hr h1 h2 (by omega) (by split <;> omega)
    · have := part_bd (r := rm - p.need d) (n := n) (by omega) h4
      have := mn_spec sh (mx (rm - p.need d) 0 / n)
      exact shareGo_bd hr (by omega) (by omega) h3 h4
end Go.Proofs.Ytnkoeekgdehhiaa
