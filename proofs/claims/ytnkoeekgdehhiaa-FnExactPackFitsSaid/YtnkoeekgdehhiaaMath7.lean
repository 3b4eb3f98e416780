import Derived.Test.YtnkoeekgdehhiaaMath6
set_option linter.unusedVariables false
namespace Go.Proofs.Ytnkoeekgdehhiaa
structure Rc where
  x : Int
  y : Int
  u : Int
  v : Int
def Rc.ok (r : Rc) : Bool := vr r.x r.y r.u r.v
/-- the piece at a side, and the rest -/
def cutP (r : Rc) (s n : Int) : Rc × Rc :=
  if s = 0 then (⟨r.x, r.y, r.u, mn n r.v⟩, ⟨r.x, r.y + mn n r.v, r.u, r.v - mn n r.v⟩)
  else if s = 1 then (⟨r.x, r.y + (r.v - mn n r.v), r.u, mn n r.v⟩, ⟨r.x, r.y, r.u, r.v - mn n r.v⟩)
  else if s = 2 then (⟨r.x, r.y, mn n r.u, r.v⟩, ⟨r.x + mn n r.u, r.y, r.u - mn n r.u, r.v⟩)
  else (⟨r.x + (r.u - mn n r.u), r.y, mn n r.u, r.v⟩, ⟨r.x, r.y, r.u - mn n r.u, r.v⟩)
theorem cutP_ok {r : Rc} {s n : Int} (h : r.ok = true) (hn : 0 ≤ n) : (cutP r s n).1.ok = true ∧ (cutP r s n).2.ok = true := by
  obtain ⟨a1, a2, a3, a4, a5, a6, a7, a8⟩ := vr_iff.1 h
  have m1 := mn_spec n r.u
  have m2 := mn_spec n r.v
  unfold cutP
  split
  · exact ⟨vr_iff.2 (by dsimp only; omega), vr_iff.2 (by dsimp only; omega)⟩
  · split
    · exact ⟨vr_iff.2 (by dsimp only; omega), vr_iff.2 (by dsimp only; omega)⟩
    · split
      · exact ⟨vr_iff.2 (by dsimp only; omega), vr_iff.2 (by dsimp only; omega)⟩
      · exact ⟨vr_iff.2 (by dsimp only; omega), vr_iff.2 (by dsimp only; omega)⟩
def Rc.size (r : Rc) (d : Bool) : Int := if d then r.v else r.u
theorem Rc.size_bd {r : Rc} (h : r.ok = true) (d : Bool) : 0 ≤ r.size d ∧ r.size d ≤ 400 := by
  obtain ⟨a1, a2, a3, a4, a5, a6, a7, a8⟩ := vr_iff.1 h
  unfold Rc.size; split <;> omega
/-- how much the first item has more -/
def moreOf : List Pk → Rc → Int
  | [], _ => 0
  | p :: r, z => if p.ex then shareGo (p :: r) p.down (z.size p.down) (z.size p.down) 0 else 0
def takeOf (p : Pk) (r : List Pk) (z : Rc) : Int := p.need p.down + moreOf (p :: r) z
def parcM : List Pk → Rc → List Rc × Rc
  | [], z => ([], z)
  | p :: r, z => ((cutP z p.s (takeOf p r z)).1 :: (parcM r (cutP z p.s (takeOf p r z)).2).1, (parcM r (cutP z p.s (takeOf p r z)).2).2)
theorem parcM_len : ∀ {L : List Pk} {z : Rc}, (parcM L z).1.length = L.length
  | [], z => rfl
  | p :: r, z => by simp [parcM, parcM_len (L := r)]
theorem moreOf_bd {p : Pk} {r : List Pk} {z : Rc} (hL : ∀ q ∈ p :: r, q.ok = true) (hz : z.ok = true) : 0 ≤ moreOf (p :: r) z ∧ moreOf (p :: r) z ≤ 400 := by
  obtain ⟨b1, b2⟩ := Rc.size_bd hz p.down
  simp only [moreOf]
  cases hx : p.ex
  · simp
  · have nb := Pk.need_bd (hL p List.mem_cons_self) p.down
    simp only [if_true]
    rw [shareGo_same rfl hx]
    exact shareGo_bd (fun q hq => hL q (List.mem_cons_of_mem _ hq)) b1 b2 (by omega) (by omega)
theorem takeOf_bd {p : Pk} {r : List Pk} {z : Rc} (hL : ∀ q ∈ p :: r, q.ok = true) (hz : z.ok = true) : 0 ≤ takeOf p r z ∧ takeOf p r z ≤ 450 := by
  have := moreOf_bd hL hz
  have := Pk.need_bd (hL p List.mem_cons_self) p.down
  unfold takeOf; omega
end Go.Proofs.Ytnkoeekgdehhiaa
