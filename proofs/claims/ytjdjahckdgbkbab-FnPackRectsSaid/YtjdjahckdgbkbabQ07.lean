import Derived.Test.YtjdjahckdgbkbabQ06
section
set_option linter.unusedVariables false
namespace Go.Proofs.Ytjdjahckdgbkbab
/-- what items need together: across, down -/
def reqM : List Pk → Int × Int
  | [] => (0, 0)
  | p :: t => if p.down then (mx (reqM t).1 (p.need false), (reqM t).2 + p.need true) else ((reqM t).1 + p.need false, mx (reqM t).2 (p.need true))
def reqD (L : List Pk) (d : Bool) : Int := if d then (reqM L).2 else (reqM L).1
theorem reqD_nil (d : Bool) : reqD [] d = 0 := by cases d <;> rfl
theorem reqD_same {p : Pk} {t : List Pk} {d : Bool} (h : p.down = d) : reqD (p :: t) d = reqD t d + p.need d := by
  cases d <;> simp [reqD, reqM, h]
theorem reqD_other {p : Pk} {t : List Pk} {d : Bool} (h : ¬ p.down = d) : reqD (p :: t) d = mx (reqD t d) (p.need d) := by
  cases d
  · have h' : p.down = true := by simpa using h
    simp [reqD, reqM, h']
  · have h' : p.down = false := by simpa using h
    simp [reqD, reqM, h']
theorem reqM_bd : ∀ {L : List Pk}, (∀ p ∈ L, p.ok = true) → 0 ≤ (reqM L).1 ∧ (reqM L).1 ≤ 50 * L.length ∧ 0 ≤ (reqM L).2 ∧ (reqM L).2 ≤ 50 * L.length
  | [], _ => by simp [reqM]
  | p :: t, h => by
    obtain ⟨a1, a2, a3, a4⟩ := reqM_bd (L := t) (fun q hq => h q (List.mem_cons_of_mem _ hq))
    have n1 := Pk.need_bd (h p List.mem_cons_self) false
    have n2 := Pk.need_bd (h p List.mem_cons_self) true
    have m1 := mx_spec (reqM t).1 (p.need false)
    have m2 := mx_spec (reqM t).2 (p.need true)
    simp only [reqM, List.length_cons]
    split <;> (dsimp only; omega)
theorem reqM_bdW : ∀ {L : List Pk}, (∀ p ∈ L, p.big) → 0 ≤ (reqM L).1 ∧ (reqM L).1 ≤ 1000000000020 * L.length ∧ 0 ≤ (reqM L).2 ∧ (reqM L).2 ≤ 1000000000020 * L.length
  | [], _ => by simp [reqM]
  | p :: t, h => by
    obtain ⟨a1, a2, a3, a4⟩ := reqM_bdW (L := t) (fun q hq => h q (List.mem_cons_of_mem _ hq))
    have n1 := Pk.need_bdW (h p List.mem_cons_self) false
    have n2 := Pk.need_bdW (h p List.mem_cons_self) true
    have m1 := mx_spec (reqM t).1 (p.need false)
    have m2 := mx_spec (reqM t).2 (p.need true)
    simp only [reqM, List.length_cons]
    split <;> (dsimp only; omega)
theorem reqD_bd {L : List Pk} (h : ∀ p ∈ L, p.ok = true) (d : Bool) : 0 ≤ reqD L d ∧ reqD L d ≤ 50 * L.length := by
  obtain ⟨a1, a2, a3, a4⟩ := reqM_bd h
  unfold reqD; split <;> omega
theorem reqM_tail {p : Pk} {t : List Pk} (h : ∀ q ∈ p :: t, q.ok = true) : (reqM t).1 ≤ (reqM (p :: t)).1 ∧ (reqM t).2 ≤ (reqM (p :: t)).2 := by
  have n1 := Pk.need_bd (h p List.mem_cons_self) false
  have n2 := Pk.need_bd (h p List.mem_cons_self) true
  have m1 := mx_spec (reqM t).1 (p.need false)
  have m2 := mx_spec (reqM t).2 (p.need true)
  simp only [reqM]
  split <;> (dsimp only; omega)
/-- the item at the other end -/
def Pk.flip (p : Pk) : Pk := { p with s := if p.s = 0 then 1 else if p.s = 1 then 0 else if p.s = 2 then 3 else 2 }
theorem Pk.flip_ok {p : Pk} (h : p.ok = true) : p.flip.ok = true := by
  have := vpB_iff.1 h
  refine vpB_iff.2 ?_
  unfold Pk.flip
  dsimp only
  refine ⟨this.1, this.2.1, ?_, this.2.2.2⟩
  split
  · omega
  · split
    · omega
    · split <;> omega
theorem Pk.flip_down {p : Pk} (h : p.ok = true) : p.flip.down = p.down := by
  have := vpB_iff.1 h
  unfold Pk.down Pk.flip
  dsimp only
  by_cases h0 : p.s = 0
  · simp [h0]
  · by_cases h1 : p.s = 1
    · simp [h1]
    · by_cases h2 : p.s = 2
      · simp [h2]
      · simp [h0, h1, h2]
theorem Pk.flip_need (p : Pk) (d : Bool) : p.flip.need d = p.need d := by cases d <;> rfl
theorem reqM_flip : ∀ {L : List Pk}, (∀ p ∈ L, p.ok = true) → reqM (L.map Pk.flip) = reqM L
  | [], _ => rfl
  | p :: t, h => by
    have ih := reqM_flip (L := t) (fun q hq => h q (List.mem_cons_of_mem _ hq))
    simp only [List.map_cons, reqM, ih, Pk.flip_need, Pk.flip_down (h p List.mem_cons_self)]
/-- a share is no more than what it begins with -/
theorem shareGo_le : ∀ {L : List Pk} {d : Bool} {sh rm n : Int}, shareGo L d sh rm n ≤ sh
  | [], d, sh, rm, n => (mn_spec _ _).1
  | p :: r, d, sh, rm, n => by
    unfold shareGo
    split
    · exact shareGo_le
    · exact Int.le_trans shareGo_le (mn_spec _ _).1
theorem part_le {x n : Int} (hn : 1 ≤ n) : mx x 0 / n ≤ mx x 0 := Int.ediv_le_self n (by have := mx_spec x 0; omega)
theorem shareGo_room : ∀ {L : List Pk} {d : Bool} {sh rm n : Int}, (∀ p ∈ L, p.ok = true) → 1 ≤ n → shareGo L d sh rm n ≤ mx (rm - reqD L d) 0
  | [], d, sh, rm, n, _, hn => by
    rw [reqD_nil]
    have := mn_spec sh (mx rm 0 / n)
    have := part_le (x := rm) hn
    simp only [shareGo, Int.sub_zero]; omega
  | p :: r, d, sh, rm, n, hL, hn => by
    have hr : ∀ p ∈ r, p.ok = true := fun q hq => hL q (List.mem_cons_of_mem _ hq)
    by_cases h : p.down = d
    · rw [reqD_same h, shareGo, if_pos h]
      have := shareGo_room (L := r) (d := d) (sh := sh) (rm := rm - p.need d) (n := if p.ex then n + 1 else n) hr (by split <;> omega)
      rwa [show rm - p.need d - reqD r d = rm - (reqD r d + p.need d) by omega] at this
    · rw [reqD_other h, shareGo, if_neg h]
      have h1 := shareGo_room (L := r) (d := d) (sh := mn sh (mx (rm - p.need d) 0 / n)) (rm := rm) (n := n) hr hn
      have h2 := shareGo_le (L := r) (d := d) (sh := mn sh (mx (rm - p.need d) 0 / n)) (rm := rm) (n := n)
      have := mn_spec sh (mx (rm - p.need d) 0 / n)
      have := part_le (x := rm - p.need d) hn
      have := mx_spec (reqD r d) (p.need d)
      have := mx_spec (rm - p.need d) 0
      have := mx_spec (rm - reqD r d) 0
      have := mx_spec (rm - mx (reqD r d) (p.need d)) 0
      omega
/-- the share of the first item, which expands in this direction -/
theorem share_room {p : Pk} {t : List Pk} {rm : Int} (hL : ∀ q ∈ p :: t, q.ok = true) (hx : p.ex = true) (h0 : 0 ≤ rm) :
    shareGo (p :: t) p.down rm rm 0 ≤ rm ∧ shareGo (p :: t) p.down rm rm 0 ≤ mx (rm - reqD (p :: t) p.down) 0 := by
  refine ⟨shareGo_le, ?_⟩
  rw [shareGo_same rfl hx, reqD_same rfl]
  have := shareGo_room (L := t) (d := p.down) (sh := rm) (rm := rm - p.need p.down) (n := 0 + 1) (fun q hq => hL q (List.mem_cons_of_mem _ hq)) (by omega)
  rwa [show rm - p.need p.down - reqD t p.down = rm - (reqD t p.down + p.need p.down) by omega] at this
/-- the parcels ahead of the last one do not know of it, if none expands -/
theorem parcM_noex : ∀ {L : List Pk} {z : Rc}, (∀ p ∈ L, p.ex = false) → ∀ n, (parcM (L.take n) z).1 = (parcM L z).1.take n
  | [], z, _, n => by cases n <;> simp [parcM]
  | p :: r, z, h, 0 => by simp [parcM]
  | p :: r, z, h, n + 1 => by
    have hp := h p List.mem_cons_self
    have e : ∀ q, takeOf p q z = p.need p.down + 0 := fun q => by simp [takeOf, moreOf, hp]
    simp only [List.take_succ_cons, parcM, e]
    rw [parcM_noex (fun q hq => h q (List.mem_cons_of_mem _ hq)) n]
/-- a rectangle in another one -/
def Rc.inn (a b : Rc) : Prop := a.x ≤ b.x ∧ a.y ≤ b.y ∧ b.x + b.u ≤ a.x + a.u ∧ b.y + b.v ≤ a.y + a.v
theorem Rc.inn_refl (a : Rc) : a.inn a := by unfold Rc.inn; omega
theorem Rc.inn_trans {a b c : Rc} (h1 : a.inn b) (h2 : b.inn c) : a.inn c := by unfold Rc.inn at *; omega
theorem cutP_inn {r : Rc} {s n : Int} (hr : r.ok = true) (hn : 0 ≤ n) : r.inn (cutP r s n).1 ∧ r.inn (cutP r s n).2 := by
  obtain ⟨a1, a2, a3, a4, a5, a6, a7, a8⟩ := vr_iff.1 hr
  have m1 := mn_spec n r.u
  have m2 := mn_spec n r.v
  unfold cutP Rc.inn
  split
  · dsimp only; omega
  · split
    · dsimp only; omega
    · split
      · dsimp only; omega
      · dsimp only; omega
/-- they have a common point -/
def Rc.met (a b : Rc) : Prop := 0 < mn (a.x + a.u) (b.x + b.u) - mx a.x b.x ∧ 0 < mn (a.y + a.v) (b.y + b.v) - mx a.y b.y
theorem met_inn {a b c d : Rc} (h1 : a.inn c) (h2 : b.inn d) (h : ¬ a.met b) : ¬ c.met d := by
  unfold Rc.met Rc.inn at *
  have := mn_spec (a.x + a.u) (b.x + b.u); have := mx_spec a.x b.x; have := mn_spec (a.y + a.v) (b.y + b.v); have := mx_spec a.y b.y
  have := mn_spec (c.x + c.u) (d.x + d.u); have := mx_spec c.x d.x; have := mn_spec (c.y + c.v) (d.y + d.v); have := mx_spec c.y d.y
  omega
theorem cutP_apart {r : Rc} {s n : Int} (hr : r.ok = true) (hn : 0 ≤ n) : ¬ (cutP r s n).1.met (cutP r s n).2 := by
  obtain ⟨a1, a2, a3, a4, a5, a6, a7, a8⟩ := vr_iff.1 hr
  have m1 := mn_spec n r.u
  have m2 := mn_spec n r.v
  generalize hp : cutP r s n = pr
  have q1 := mn_spec (pr.1.x + pr.1.u) (pr.2.x + pr.2.u); have q2 := mx_spec pr.1.x pr.2.x
  have q3 := mn_spec (pr.1.y + pr.1.v) (pr.2.y + pr.2.v); have q4 := mx_spec pr.1.y pr.2.y
  unfold Rc.met
  unfold cutP at hp
  split at hp
  · subst hp; dsimp only at *; omega
  · split at hp
    · subst hp; dsimp only at *; omega
    · split at hp
      · subst hp; dsimp only at *; omega
      · subst hp; dsimp only at *; omega
def Rc.area (r : Rc) : Int := r.u * r.v
theorem cutP_area (r : Rc) (s n : Int) : (cutP r s n).1.area + (cutP r s n).2.area = r.area := by
  unfold cutP Rc.area
  split
  · dsimp only; rw [← Int.mul_add]; congr 1; omega
  · split
    · dsimp only; rw [← Int.mul_add]; congr 1; omega
    · split
      · dsimp only; rw [← Int.add_mul]; congr 1; omega
      · dsimp only; rw [← Int.add_mul]; congr 1; omega
def areas : List Rc → Int
  | [] => 0
  | r :: t => r.area + areas t
/-- all parcels and what is left: in the rectangle, apart, and all of it -/
theorem parcM_all : ∀ {L : List Pk} {z : Rc}, (∀ p ∈ L, p.ok = true) → z.ok = true →
    (∀ r ∈ (parcM L z).1 ++ [(parcM L z).2], z.inn r) ∧ ((parcM L z).1 ++ [(parcM L z).2]).Pairwise (fun a b => ¬ a.met b) ∧ areas ((parcM L z).1 ++ [(parcM L z).2]) = z.area ∧ (∀ r ∈ (parcM L z).1 ++ [(parcM L z).2], r.ok = true)
  | [], z, _, hz => by
    refine ⟨?_, ?_, ?_, ?_⟩
    · intro r hr; simp [parcM] at hr; subst hr; exact Rc.inn_refl _
    · simp [parcM]
    · simp [parcM, areas]
    · intro r hr; simp [parcM] at hr; subst hr; exact hz
  | p :: t, z, hL, hz => by
    obtain ⟨b1, b2⟩ := takeOf_bd hL hz
    obtain ⟨o1, o2⟩ := cutP_ok (s := p.s) hz b1
    obtain ⟨i1, i2⟩ := cutP_inn (s := p.s) hz b1
    have ha := cutP_apart (s := p.s) hz b1
    have har := cutP_area z p.s (takeOf p t z)
    obtain ⟨h1, h2, h3, h4⟩ := parcM_all (L := t) (z := (cutP z p.s (takeOf p t z)).2) (fun q hq => hL q (List.mem_cons_of_mem _ hq)) o2
    simp only [parcM, List.cons_append]
    refine ⟨?_, ?_, ?_, ?_⟩
    · intro r hr
      rcases List.mem_cons.1 hr with rfl | hr
      · exact i1
      · exact Rc.inn_trans i2 (h1 r hr)
    · refine List.pairwise_cons.2 ⟨fun r hr => ?_, h2⟩
      exact met_inn (Rc.inn_refl _) (h1 r hr) ha
    · simp only [areas, h3]; exact har
    · intro r hr
      rcases List.mem_cons.1 hr with rfl | hr
      · exact o1
      · exact h4 r hr
/-- what is left has no points if the last item expands -/
theorem parcM_last : ∀ {L : List Pk} {z : Rc} (p : Pk), (∀ q ∈ L ++ [p], q.ok = true) → z.ok = true → p.ex = true → (parcM (L ++ [p]) z).2.area = 0
  | [], z, p, hL, hz, hx => by
    have hp : p.ok = true := hL p (by simp)
    obtain ⟨a1, a2, a3, a4, a5, a6, a7, a8⟩ := vr_iff.1 hz
    have hs := (vpB_iff.1 hp).2.2.1
    have nb := Pk.need_bd hp p.down
    have e : takeOf p [] z = p.need p.down + mn (z.size p.down) (mx (z.size p.down - p.need p.down) 0 / 1) := by
      simp [takeOf, moreOf, hx, shareGo]
    rw [Int.ediv_one] at e
    have m1 := mn_spec (z.size p.down) (mx (z.size p.down - p.need p.down) 0)
    have m2 := mx_spec (z.size p.down - p.need p.down) 0
    have hsz := Rc.size_bd hz p.down
    simp only [List.nil_append, parcM]
    have ht : z.size p.down ≤ takeOf p [] z := by rw [e]; omega
    generalize takeOf p [] z = n at *
    have m3 := mn_spec n z.u
    have m4 := mn_spec n z.v
    unfold cutP Rc.area
    by_cases h0 : p.s = 0
    · have hd : p.down = true := by simp [Pk.down, h0]
      rw [hd] at ht; simp [Rc.size] at ht
      rw [if_pos h0]; dsimp only
      rw [show z.v - mn n z.v = 0 by omega, Int.mul_zero]
    · rw [if_neg h0]
      by_cases h1 : p.s = 1
      · have hd : p.down = true := by simp [Pk.down, h1]
        rw [hd] at ht; simp [Rc.size] at ht
        rw [if_pos h1]; dsimp only
        rw [show z.v - mn n z.v = 0 by omega, Int.mul_zero]
      · have hd : p.down = false := by simp [Pk.down, h0, h1]
        rw [hd] at ht; simp [Rc.size] at ht
        rw [if_neg h1]
        split
        · dsimp only; rw [show z.u - mn n z.u = 0 by omega, Int.zero_mul]
        · dsimp only; rw [show z.u - mn n z.u = 0 by omega, Int.zero_mul]
  | q :: t, z, p, hL, hz, hx => by
    have hL' : ∀ r ∈ q :: (t ++ [p]), r.ok = true := hL
    obtain ⟨b1, b2⟩ := takeOf_bd hL' hz
    obtain ⟨o1, o2⟩ := cutP_ok (s := q.s) hz b1
    show (parcM (q :: (t ++ [p])) z).2.area = 0
    simp only [parcM]
    exact parcM_last (L := t) p (fun r hr => hL' r (List.mem_cons_of_mem _ hr)) o2 hx
end Go.Proofs.Ytjdjahckdgbkbab
end
section
namespace Go.Proofs.Ytjdjahckdgbkbab
open Go.RowKit
set_option linter.unusedVariables false
set_option maxHeartbeats 1000000
attribute [local go_sem 5000] run_mx run_mn run_eqlR run_neqR
attribute [local go_sem] growUpon_value growUpon_skip growUpon_enter
theorem equalRect_z (r : Rc) (w : World) : Calls Try.prog 26 #[.agg #[.int .i64 (r.x), .int .i64 (r.y), .int .i64 (r.u), .int .i64 (r.v)], .agg #[.int .i64 (r.x), .int .i64 (r.y), .int .i64 (r.u), .int .i64 (r.v)]] w fun e w' => e = .returned (.bool true) ∧ Below w.heap.size w w' := by
  have h : eqR r.x r.y r.u r.v r.x r.y r.u r.v = true := eqR_self
  go_enter Try.func26, Try.ntmps26
  go_wp2
  go_ret
  exact ⟨rfl, (by repeat (first | with_reducible exact Below.refl _ _ | with_reducible assumption | with_reducible refine balloc ?_ | (with_reducible refine bset ?_ ?_; rotate_left; ((try dsimp only); omega)) | refine bkeep2 ?_ (by assumption) | with_reducible refine Below.drew ?_))⟩
theorem area_z (r : Rc) (hr : r.ok = true) (w : World) : Calls Try.prog 29 #[.agg #[.int .i64 (r.x), .int .i64 (r.y), .int .i64 (r.u), .int .i64 (r.v)]] w fun e w' => e = .returned (.int .i64 r.area) ∧ Below w.heap.size w w' := by
  have hb := area_bds hr
  obtain ⟨h1, h2⟩ := hb
  go_enter Try.func29, Try.ntmps29
  go_wp2_with fail
  all_goals try go_quiet (fail)
  all_goals try go_wp2
  go_ret
  exact ⟨rfl, (by repeat (first | with_reducible exact Below.refl _ _ | with_reducible assumption | with_reducible refine balloc ?_ | (with_reducible refine bset ?_ ?_; rotate_left; ((try dsimp only); omega)) | refine bkeep2 ?_ (by assumption) | with_reducible refine Below.drew ?_))⟩
theorem within2_z (a b : Rc) (ha : a.ok = true) (hb : b.ok = true) (h : a.inn b) (w : World) : Calls Try.prog 22 #[.agg #[.int .i64 (a.x), .int .i64 (a.y), .int .i64 (a.u), .int .i64 (a.v)], .agg #[.int .i64 (b.x), .int .i64 (b.y), .int .i64 (b.u), .int .i64 (b.v)]] w fun e w' => e = .returned (.bool true) ∧ Below w.heap.size w w' := by
  obtain ⟨a1, a2, a3, a4, a5, a6, a7, a8⟩ := vr_iff.1 ha
  obtain ⟨b1, b2, b3, b4, b5, b6, b7, b8⟩ := vr_iff.1 hb
  unfold Rc.inn at h
  obtain ⟨h1, h2, h3, h4⟩ := h
  have d1 : decide (a.x ≤ b.x) = true := by simpa using h1
  have d2 : decide (a.y ≤ b.y) = true := by simpa using h2
  have d3 : decide (b.x + b.u ≤ a.x + a.u) = true := by simpa using h3
  have d4 : decide (b.y + b.v ≤ a.y + a.v) = true := by simpa using h4
  go_enter Try.func22, Try.ntmps22
  go_wp2_with fail
  all_goals try go_quiet (fail)
  all_goals try go_wp2
  go_ret
  exact ⟨rfl, (by repeat (first | with_reducible exact Below.refl _ _ | with_reducible assumption | with_reducible refine balloc ?_ | (with_reducible refine bset ?_ ?_; rotate_left; ((try dsimp only); omega)) | refine bkeep2 ?_ (by assumption) | with_reducible refine Below.drew ?_))⟩
theorem room_z (u v : Int) (w : World) : Calls Try.prog 28 #[.int .i64 u, .int .i64 v] w fun e w' => e = .returned (.agg #[.int .i64 (0), .int .i64 (0), .int .i64 (u), .int .i64 (v)]) ∧ Below w.heap.size w w' := by
  go_enter Try.func28, Try.ntmps28
  go_wp2
  exact bodyPost_ret (v := .agg #[.int .i64 (0), .int .i64 (0), .int .i64 (u), .int .i64 (v)]) (by simp only [results, Try.results28]; go_simp) rfl ⟨rfl, (by repeat (first | with_reducible exact Below.refl _ _ | with_reducible assumption | with_reducible refine balloc ?_ | (with_reducible refine bset ?_ ?_; rotate_left; ((try dsimp only); omega)) | refine bkeep2 ?_ (by assumption) | with_reducible refine Below.drew ?_))⟩
theorem gp_val {L : List Pk} {u v : Int} (hok : L.all Pk.ok = true) : (vpsB L && rmB u v) = (decide ((L.length : Int) ≤ 7) && (decide (0 ≤ u) && (decide (u ≤ 400) && (decide (0 ≤ v) && decide (v ≤ 400))))) := by
  rw [Bool.eq_iff_iff]
  simp only [Bool.and_eq_true, vpsB_iff, rmB, rng_iff, decide_eq_true_eq]
  constructor
  · rintro ⟨⟨_, a⟩, b, c⟩; omega
  · rintro ⟨a, b, c, d, e⟩; exact ⟨⟨fun p hp => List.all_eq_true.1 hok p hp, by omega⟩, by omega, by omega⟩
set_option maxRecDepth 100000 in
theorem goodPacks_any (A : Option Addr) (c : Nat) (L : List Pk) (u v : Int) (w : World) (h : PV w A L) (hL : L.length ≤ 1048576) (b : Bool) (hb : (vpsB L && rmB u v) = b) :
    Calls Try.prog 15 #[.slice A L.length c, .int .i64 u, .int .i64 v] w fun e w' => e = .returned (.bool b) ∧ Below w.heap.size w w' := by
  have HBV := Lib.hid hb
  clear hb
  go_enter Try.func15, Try.ntmps15
  go_wp2_with fail
  go_loopw [7] (fun i wr => ∃ k : Nat, k ≤ L.length ∧ i = .int .i64 k ∧ (L.take k).all Pk.ok = true ∧ Below w.heap.size w wr) (fun i _ => L.length - (intOf i).toNat)
  case atStart => exact ⟨0, by omega, rfl, rfl, Below.refl _ _⟩
  case round =>
    obtain ⟨k, hk, rfl, hok, hB⟩ := hrel
    by_cases hlt : k < L.length
    · have hd : decide ((k : Int) < (L.length : Int)) = true := by simpa using hlt
      obtain ⟨b', off, rfl, hb, hp⟩ := (h.keep hB).cells (by omega)
      obtain ⟨c0, c1, c2, c3, c4, c5, c6, c7, c8⟩ := hp k _ (List.getElem?_eq_getElem hlt)
      have hget : L[k]? = some L[k] := List.getElem?_eq_getElem hlt
      generalize hx : L[k] = p at *
      have HG := Lib.hid hget
      have HX := Lib.hid hx
      have HO := Lib.hid hok
      have HBB := Lib.hid hB
      clear hget hx hok hB
      cases hv : p.ok
      all_goals
        have Hv := Lib.hid hv
        clear hv
        go_wp2_with fail
        first | (with_reducible refine (vp_v p false Hv.out _).mono ?_) | (with_reducible refine (vp_v p true Hv.out _).mono ?_)
        rintro e w1 ⟨rfl, hb1⟩
        replace HBB := Lib.hid (bkeep2 HBB.out hb1)
        clear hb1 c0 c1 c2 c3 c4 c5 c6 c7 c8
        go_wp2
      · go_ret
        exact ⟨ret_bool (by
          rw [← HBV.out]
          symm
          rw [Bool.eq_false_iff]
          intro hh
          have h1 := (vpsB_iff.1 (Bool.and_eq_true_iff.1 hh).1).1 p (List.mem_of_getElem? HG.out)
          rw [Hv.out] at h1
          cases h1), HBB.out⟩
      · go_roundw
        case rel => exact ⟨k + 1, by omega, by go_num, by rw [all_snoc HG.out, HO.out, Hv.out]; rfl, HBB.out⟩
        case measure => simp [intOf]; omega
    · have hd : decide ((k : Int) < (L.length : Int)) = false := by simp; omega
      have he : L.take k = L := List.take_of_length_le (by omega)
      rw [he] at hok
      have HO := Lib.hid hok
      have HBB := Lib.hid hB
      clear hok hB he
      go_wp2
      all_goals go_ret
      all_goals exact ⟨ret_bool (by rw [← HBV.out, gp_val HO.out]; simp_all <;> omega), HBB.out⟩
end Go.Proofs.Ytjdjahckdgbkbab
end
section
namespace Go.Proofs.Ytjdjahckdgbkbab
open Go.RowKit
set_option linter.unusedVariables false
attribute [local go_sem 5000] run_mx run_mn run_eqlR run_neqR
attribute [local go_sem] growUpon_value growUpon_skip growUpon_enter
set_option maxHeartbeats 1000000
theorem validAnchor_any (k : Int) (w : World) : Calls Try.prog 62 #[.int .i64 k] w fun e w' => e = .returned (.bool (rng k 0 8)) ∧ w = w' := by
  go_enter Try.func62, Try.ntmps62
  go_wp2_with (go_at_call 47; refine (within_any _ _ _ _).mono ?_; rintro e w' ⟨rfl, rfl⟩)
  go_ret
  exact ⟨ret_bool rfl, rfl⟩
theorem belowN {B : Nat} {a w : World} (h : Below B a w) (n : Nat) : Below B a (w.drewN n) := ⟨h.os, h.tape, h.output, h.size, h.block⟩
set_option maxRecDepth 100000 in
theorem anchored_any (x y u v p q k : Int) (w : World) (h : anB x y u v p q k = true) : Calls Try.prog 82 #[.agg #[.int .i64 (x), .int .i64 (y), .int .i64 (u), .int .i64 (v)], .int .i64 p, .int .i64 q, .int .i64 k] w fun e w' => e = .returned (.agg #[.int .i64 (x + (u - mn p u) * (k % 3) / 2), .int .i64 (y + (v - mn q v) * (k / 3) / 2), .int .i64 (mn p u), .int .i64 (mn q v)]) ∧ Below w.heap.size w w' := by
  obtain ⟨h1, h2, h3, h4⟩ := anB_yes h
  obtain ⟨m1, m2, m3, m4, m5, m6, m7, m8, m9, m10, m11, m12⟩ := an_bds h
  obtain ⟨a1, a2, a3, a4, a5, a6, a7, a8⟩ := vr_iff.1 h1
  obtain ⟨b5, b6⟩ := rng_iff.1 h4
  clear h h1 h2 h3 h4
  go_enter Try.func82, Try.ntmps82
  go_wp2_with fail
  go_quiet (fail)
  go_wp2
  exact bodyPost_ret (v := .agg #[.int .i64 (x + (u - mn p u) * (k % 3) / 2), .int .i64 (y + (v - mn q v) * (k / 3) / 2), .int .i64 (mn p u), .int .i64 (mn q v)]) (by simp only [results, Try.results82]; go_simp) rfl ⟨rfl, (by repeat (first | with_reducible exact Below.refl _ _ | with_reducible assumption | with_reducible refine balloc ?_ | (with_reducible refine bset ?_ ?_; rotate_left; ((try dsimp only); omega)) | refine bkeep2 ?_ (by assumption) | with_reducible refine Below.drew ?_ | refine belowN ?_ _))⟩
end Go.Proofs.Ytjdjahckdgbkbab
end
section
namespace Go.Proofs.Ytjdjahckdgbkbab
open Go.RowKit
set_option linter.unusedVariables false
attribute [local go_sem 5000] run_mx run_mn run_eqlR run_neqR
attribute [local go_sem] growUpon_value growUpon_skip growUpon_enter
set_option maxHeartbeats 1000000
theorem svalidAnchor_any (k : Int) (w : World) : Calls Try.prog 79 #[.int .i64 k] w fun e w' => e = .returned (.bool (rng k 0 8)) ∧ w = w' := by
  go_enter Try.func79, Try.ntmps79
  go_wp2_with (go_at_call 52; refine (inRange_any _ _ _ _).mono ?_; rintro e w' ⟨rfl, rfl⟩)
  go_ret
  exact ⟨ret_bool rfl, rfl⟩
set_option maxRecDepth 100000 in
theorem sanchored_any (x y u v p q k : Int) (w : World) (h : anB x y u v p q k = true) : Calls Try.prog 81 #[.agg #[.int .i64 (x), .int .i64 (y), .int .i64 (u), .int .i64 (v)], .int .i64 p, .int .i64 q, .int .i64 k] w fun e w' => e = .returned (.agg #[.int .i64 (x + (u - mn p u) * (k % 3) / 2), .int .i64 (y + (v - mn q v) * (k / 3) / 2), .int .i64 (mn p u), .int .i64 (mn q v)]) ∧ Below w.heap.size w w' := by
  obtain ⟨h1, h2, h3, h4⟩ := anB_yes h
  obtain ⟨m1, m2, m3, m4, m5, m6, m7, m8, m9, m10, m11, m12⟩ := an_bds h
  obtain ⟨a1, a2, a3, a4, a5, a6, a7, a8⟩ := vr_iff.1 h1
  obtain ⟨b5, b6⟩ := rng_iff.1 h4
  clear h h1 h2 h3 h4
  go_enter Try.func81, Try.ntmps81
  go_wp2
  exact bodyPost_ret (v := .agg #[.int .i64 (x + (u - mn p u) * (k % 3) / 2), .int .i64 (y + (v - mn q v) * (k / 3) / 2), .int .i64 (mn p u), .int .i64 (mn q v)]) (by simp only [results, Try.results81]; go_simp) rfl ⟨rfl, (by repeat (first | with_reducible exact Below.refl _ _ | with_reducible assumption | with_reducible refine balloc ?_ | (with_reducible refine bset ?_ ?_; rotate_left; ((try dsimp only); omega)) | refine bkeep2 ?_ (by assumption) | with_reducible refine Below.drew ?_))⟩
end Go.Proofs.Ytjdjahckdgbkbab
end
section
namespace Go.Proofs.Ytjdjahckdgbkbab
open Go.RowKit
set_option linter.unusedVariables false
attribute [local go_sem 5000] run_mx run_mn run_eqlR run_neqR
attribute [local go_sem] growUpon_value growUpon_skip growUpon_enter
set_option maxHeartbeats 1000000
end Go.Proofs.Ytjdjahckdgbkbab
end
section
namespace Go.Proofs.Ytjdjahckdgbkbab
open Go.RowKit
set_option linter.unusedVariables false
attribute [local go_sem 5000] run_mx run_mn run_eqlR run_neqR
attribute [local go_sem] growUpon_value growUpon_skip growUpon_enter
set_option maxHeartbeats 1000000
theorem inset_any (x y u v p q : Int) (w : World) (h : inB x y u v p q = true) : Calls Try.prog 48 #[.agg #[.int .i64 (x), .int .i64 (y), .int .i64 (u), .int .i64 (v)], .int .i64 p, .int .i64 q] w fun e w' => e = .returned (.agg #[.int .i64 (x + mn p (u / 2)), .int .i64 (y + mn q (v / 2)), .int .i64 (mx (u - 2 * p) 0), .int .i64 (mx (v - 2 * q) 0)]) ∧ Below w.heap.size w w' := by
  obtain ⟨h1, h2, h3⟩ := inB_yes h
  obtain ⟨m1, m2, m3, m4, m5, m6, m7, m8⟩ := in_bds h
  obtain ⟨a1, a2, a3, a4, a5, a6, a7, a8⟩ := vr_iff.1 h1
  obtain ⟨b1, b2⟩ := rng_iff.1 h2
  obtain ⟨b3, b4⟩ := rng_iff.1 h3
  clear h h1 h2 h3
  go_enter Try.func48, Try.ntmps48
  go_wp2
  exact bodyPost_ret (v := .agg #[.int .i64 (x + mn p (u / 2)), .int .i64 (y + mn q (v / 2)), .int .i64 (mx (u - 2 * p) 0), .int .i64 (mx (v - 2 * q) 0)]) (by simp only [results, Try.results48]; go_simp) rfl ⟨rfl, (by repeat (first | with_reducible exact Below.refl _ _ | with_reducible assumption | with_reducible refine balloc ?_ | (with_reducible refine bset ?_ ?_; rotate_left; ((try dsimp only); omega)) | refine bkeep2 ?_ (by assumption) | with_reducible refine Below.drew ?_))⟩
theorem InsetRect_yes (x y u v p q : Int) (w : World) (h : inB x y u v p q = true) : Calls Try.prog 23 #[.agg #[.int .i64 (x), .int .i64 (y), .int .i64 (u), .int .i64 (v)], .int .i64 p, .int .i64 q] w fun e w' => e = .returned (.agg #[.int .i64 (x + mn p (u / 2)), .int .i64 (y + mn q (v / 2)), .int .i64 (mx (u - 2 * p) 0), .int .i64 (mx (v - 2 * q) 0)]) ∧ Below w.heap.size w w' := by
  obtain ⟨h1, h2, h3⟩ := inB_yes h
  go_enter Try.func23, Try.ntmps23
  go_wp2_with (first | (go_at_call 46; refine (validRect_any _ _ _ _ _).mono ?_; rintro e w1 ⟨rfl, hb⟩; obtain ⟨hc, hf⟩ := bcell hb; (first | (replace hB := bkeep2 hB hb) | (replace hB := bkeep2 (balloc hB) hb) | (replace hB := bkeep2 (balloc (balloc hB)) hb) | have hB := hb); obtain ⟨hC, hF, hZ, hN⟩ := bcell4 hB; (try (have hlt := Nat.lt_of_lt_of_le hlt hb.size; have hne := Nat.ne_of_lt hlt)); (have hs0 := hb.size); (try simp only [World.size_alloc] at hs0); (try (have hlt := Nat.lt_of_succ_le hs0; have hne := Nat.ne_of_lt hlt))) | (go_at_call 47; refine (within_any _ _ _ _).mono ?_; rintro e w' ⟨rfl, rfl⟩) | (go_at_call 48; refine (inset_any _ _ _ _ _ _ _ h).mono ?_; rintro e w1 ⟨rfl, hb⟩; obtain ⟨hc, hf⟩ := bcell hb; (first | (replace hB := bkeep2 hB hb) | (replace hB := bkeep2 (balloc hB) hb) | (replace hB := bkeep2 (balloc (balloc hB)) hb) | have hB := hb); obtain ⟨hC, hF, hZ, hN⟩ := bcell4 hB; (try (have hlt := Nat.lt_of_lt_of_le hlt hb.size; have hne := Nat.ne_of_lt hlt)); (have hs0 := hb.size); (try simp only [World.size_alloc] at hs0); (try (have hlt := Nat.lt_of_succ_le hs0; have hne := Nat.ne_of_lt hlt))))
  exact bodyPost_ret (v := .agg #[.int .i64 (x + mn p (u / 2)), .int .i64 (y + mn q (v / 2)), .int .i64 (mx (u - 2 * p) 0), .int .i64 (mx (v - 2 * q) 0)]) (by simp only [results, Try.results23]; go_simp) rfl ⟨rfl, (by repeat (first | with_reducible exact Below.refl _ _ | with_reducible assumption | with_reducible refine balloc ?_ | (with_reducible refine bset ?_ ?_; rotate_left; ((try dsimp only); omega)) | refine bkeep2 ?_ (by assumption) | with_reducible refine Below.drew ?_))⟩
theorem InsetRect_no (x y u v p q : Int) (w : World) (h : inB x y u v p q = false) : Calls Try.prog 23 #[.agg #[.int .i64 (x), .int .i64 (y), .int .i64 (u), .int .i64 (v)], .int .i64 p, .int .i64 q] w fun e w' => e = .returned (.agg #[.int .i64 (0), .int .i64 (0), .int .i64 (0), .int .i64 (0)]) ∧ Below w.heap.size w w' := by
  cases h1 : vr x y u v
  · go_enter Try.func23, Try.ntmps23
    go_wp2_with (first | (go_at_call 46; refine (validRect_any _ _ _ _ _).mono ?_; rintro e w1 ⟨rfl, hb⟩; obtain ⟨hc, hf⟩ := bcell hb; (first | (replace hB := bkeep2 hB hb) | (replace hB := bkeep2 (balloc hB) hb) | (replace hB := bkeep2 (balloc (balloc hB)) hb) | have hB := hb); obtain ⟨hC, hF, hZ, hN⟩ := bcell4 hB; (try (have hlt := Nat.lt_of_lt_of_le hlt hb.size; have hne := Nat.ne_of_lt hlt)); (have hs0 := hb.size); (try simp only [World.size_alloc] at hs0); (try (have hlt := Nat.lt_of_succ_le hs0; have hne := Nat.ne_of_lt hlt))) | (go_at_call 47; refine (within_any _ _ _ _).mono ?_; rintro e w' ⟨rfl, rfl⟩))
    exact bodyPost_ret (v := .agg #[.int .i64 (0), .int .i64 (0), .int .i64 (0), .int .i64 (0)]) (by simp only [results, Try.results23]; go_simp) rfl ⟨rfl, (by repeat (first | with_reducible exact Below.refl _ _ | with_reducible assumption | with_reducible refine balloc ?_ | (with_reducible refine bset ?_ ?_; rotate_left; ((try dsimp only); omega)) | refine bkeep2 ?_ (by assumption) | with_reducible refine Below.drew ?_))⟩
  cases h2 : rng p 0 10
  · go_enter Try.func23, Try.ntmps23
    go_wp2_with (first | (go_at_call 46; refine (validRect_any _ _ _ _ _).mono ?_; rintro e w1 ⟨rfl, hb⟩; obtain ⟨hc, hf⟩ := bcell hb; (first | (replace hB := bkeep2 hB hb) | (replace hB := bkeep2 (balloc hB) hb) | (replace hB := bkeep2 (balloc (balloc hB)) hb) | have hB := hb); obtain ⟨hC, hF, hZ, hN⟩ := bcell4 hB; (try (have hlt := Nat.lt_of_lt_of_le hlt hb.size; have hne := Nat.ne_of_lt hlt)); (have hs0 := hb.size); (try simp only [World.size_alloc] at hs0); (try (have hlt := Nat.lt_of_succ_le hs0; have hne := Nat.ne_of_lt hlt))) | (go_at_call 47; refine (within_any _ _ _ _).mono ?_; rintro e w' ⟨rfl, rfl⟩))
    exact bodyPost_ret (v := .agg #[.int .i64 (0), .int .i64 (0), .int .i64 (0), .int .i64 (0)]) (by simp only [results, Try.results23]; go_simp) rfl ⟨rfl, (by repeat (first | with_reducible exact Below.refl _ _ | with_reducible assumption | with_reducible refine balloc ?_ | (with_reducible refine bset ?_ ?_; rotate_left; ((try dsimp only); omega)) | refine bkeep2 ?_ (by assumption) | with_reducible refine Below.drew ?_))⟩
  have h3 := inB_no h h1 h2
  go_enter Try.func23, Try.ntmps23
  go_wp2_with (first | (go_at_call 46; refine (validRect_any _ _ _ _ _).mono ?_; rintro e w1 ⟨rfl, hb⟩; obtain ⟨hc, hf⟩ := bcell hb; (first | (replace hB := bkeep2 hB hb) | (replace hB := bkeep2 (balloc hB) hb) | (replace hB := bkeep2 (balloc (balloc hB)) hb) | have hB := hb); obtain ⟨hC, hF, hZ, hN⟩ := bcell4 hB; (try (have hlt := Nat.lt_of_lt_of_le hlt hb.size; have hne := Nat.ne_of_lt hlt)); (have hs0 := hb.size); (try simp only [World.size_alloc] at hs0); (try (have hlt := Nat.lt_of_succ_le hs0; have hne := Nat.ne_of_lt hlt))) | (go_at_call 47; refine (within_any _ _ _ _).mono ?_; rintro e w' ⟨rfl, rfl⟩))
  exact bodyPost_ret (v := .agg #[.int .i64 (0), .int .i64 (0), .int .i64 (0), .int .i64 (0)]) (by simp only [results, Try.results23]; go_simp) rfl ⟨rfl, (by repeat (first | with_reducible exact Below.refl _ _ | with_reducible assumption | with_reducible refine balloc ?_ | (with_reducible refine bset ?_ ?_; rotate_left; ((try dsimp only); omega)) | refine bkeep2 ?_ (by assumption) | with_reducible refine Below.drew ?_))⟩
end Go.Proofs.Ytjdjahckdgbkbab
end
section
namespace Go.Proofs.Ytjdjahckdgbkbab
open Go.RowKit
set_option linter.unusedVariables false
attribute [local go_sem 5000] run_mx run_mn run_eqlR run_neqR
attribute [local go_sem] growUpon_value growUpon_skip growUpon_enter
set_option maxHeartbeats 1000000
theorem sinset_any (x y u v p q : Int) (w : World) (h : inB x y u v p q = true) : Calls Try.prog 80 #[.agg #[.int .i64 (x), .int .i64 (y), .int .i64 (u), .int .i64 (v)], .int .i64 p, .int .i64 q] w fun e w' => e = .returned (.agg #[.int .i64 (x + mn p (u / 2)), .int .i64 (y + mn q (v / 2)), .int .i64 (mx (u - 2 * p) 0), .int .i64 (mx (v - 2 * q) 0)]) ∧ Below w.heap.size w w' := by
  obtain ⟨h1, h2, h3⟩ := inB_yes h
  obtain ⟨m1, m2, m3, m4, m5, m6, m7, m8⟩ := in_bds h
  obtain ⟨a1, a2, a3, a4, a5, a6, a7, a8⟩ := vr_iff.1 h1
  obtain ⟨b1, b2⟩ := rng_iff.1 h2
  obtain ⟨b3, b4⟩ := rng_iff.1 h3
  rw [mx_comm (u - 2 * p) 0, mx_comm (v - 2 * q) 0] at *
  clear h h1 h2 h3
  go_enter Try.func80, Try.ntmps80
  go_wp2
  exact bodyPost_ret (v := .agg #[.int .i64 (x + mn p (u / 2)), .int .i64 (y + mn q (v / 2)), .int .i64 (mx 0 (u - 2 * p)), .int .i64 (mx 0 (v - 2 * q))]) (by simp only [results, Try.results80]; go_simp) rfl ⟨rfl, (by repeat (first | with_reducible exact Below.refl _ _ | with_reducible assumption | with_reducible refine balloc ?_ | (with_reducible refine bset ?_ ?_; rotate_left; ((try dsimp only); omega)) | refine bkeep2 ?_ (by assumption) | with_reducible refine Below.drew ?_))⟩
end Go.Proofs.Ytjdjahckdgbkbab
end
section
namespace Go.Proofs.Ytjdjahckdgbkbab
open Go.RowKit
set_option linter.unusedVariables false
set_option maxHeartbeats 1000000
attribute [local go_sem 5000] run_mx run_mn
def insP (r : Rc) (p q : Int) : Rc := ⟨r.x + mn p (r.u / 2), r.y + mn q (r.v / 2), mx (r.u - 2 * p) 0, mx (r.v - 2 * q) 0⟩
def ancP (r : Rc) (p q k : Int) : Rc := ⟨r.x + (r.u - mn p r.u) * (k % 3) / 2, r.y + (r.v - mn q r.v) * (k / 3) / 2, mn p r.u, mn q r.v⟩
def wP (p : Pk) (r : Rc) : Int := if p.fx then (insP r p.px p.py).u else p.w
def hP (p : Pk) (r : Rc) : Int := if p.fy then (insP r p.px p.py).v else p.h
def setP (p : Pk) (r : Rc) : Rc := ancP (insP r p.px p.py) (wP p r) (hP p r) p.an
theorem ok_all {p : Pk} (h : p.ok = true) : rng p.w 0 30 = true ∧ rng p.h 0 30 = true ∧ rng p.s 0 3 = true ∧ rng p.an 0 8 = true ∧ rng p.px 0 10 = true ∧ rng p.py 0 10 = true := by
  unfold Pk.ok vpB at h; simpa using h
theorem ins_inB {p : Pk} {r : Rc} (h : p.ok = true) (hr : r.ok = true) : inB r.x r.y r.u r.v p.px p.py = true := by
  obtain ⟨_, _, _, _, h5, h6⟩ := ok_all h
  unfold inB; unfold Rc.ok at hr; simp [hr, h5, h6]
theorem ins_ok {p : Pk} {r : Rc} (h : p.ok = true) (hr : r.ok = true) : (insP r p.px p.py).ok = true := by
  obtain ⟨_, _, _, _, h5, h6⟩ := ok_all h
  have a5 := rng_iff.1 h5
  have a6 := rng_iff.1 h6
  obtain ⟨a1, a2, a3, a4, b1, b2, b3, b4⟩ := vr_iff.1 hr
  have m1 := mn_spec p.px (r.u / 2)
  have m2 := mn_spec p.py (r.v / 2)
  have m3 := mx_spec (r.u - 2 * p.px) 0
  have m4 := mx_spec (r.v - 2 * p.py) 0
  refine vr_iff.2 ?_
  dsimp only [insP]
  omega
theorem anc_anB {p : Pk} {r : Rc} (h : p.ok = true) (hr : r.ok = true) (a b : Int) (ha : a = p.w ∨ a = (insP r p.px p.py).u) (hb : b = p.h ∨ b = (insP r p.px p.py).v) :
    anB (insP r p.px p.py).x (insP r p.px p.py).y (insP r p.px p.py).u (insP r p.px p.py).v a b p.an = true := by
  obtain ⟨h1, h2, _, h4, _, _⟩ := ok_all h
  have hi := ins_ok h hr
  have a1 := rng_iff.1 h1
  have a2 := rng_iff.1 h2
  obtain ⟨b1, b2, b3, b4, _⟩ := vr_iff.1 hi
  have r1 : rng a 0 400 = true := rng_iff.2 (by rcases ha with rfl | rfl <;> omega)
  have r2 : rng b 0 400 = true := rng_iff.2 (by rcases hb with rfl | rfl <;> omega)
  unfold anB; unfold Rc.ok at hi; simp [hi, h4, r1, r2]
theorem set_ok {p : Pk} {r : Rc} (h : p.ok = true) (hr : r.ok = true) : 0 ≤ (setP p r).u ∧ 0 ≤ (setP p r).v := by
  have ha := anc_anB h hr (wP p r) (hP p r) (by unfold wP; split; exact .inr rfl; exact .inl rfl) (by unfold hP; split; exact .inr rfl; exact .inl rfl)
  have := an_bds ha
  exact ⟨this.1, this.2.2.1⟩
theorem inset_v (p : Pk) (r : Rc) (w : World) (h : p.ok = true) (hr : r.ok = true) : Calls Try.prog 48 #[.agg #[.int .i64 (r.x), .int .i64 (r.y), .int .i64 (r.u), .int .i64 (r.v)], .int .i64 p.px, .int .i64 p.py] w fun e w' => e = .returned (.agg #[.int .i64 ((insP r p.px p.py).x), .int .i64 ((insP r p.px p.py).y), .int .i64 ((insP r p.px p.py).u), .int .i64 ((insP r p.px p.py).v)]) ∧ Below w.heap.size w w' := inset_any _ _ _ _ _ _ _ (ins_inB h hr)
theorem sinset_v (p : Pk) (r : Rc) (w : World) (h : p.ok = true) (hr : r.ok = true) : Calls Try.prog 80 #[.agg #[.int .i64 (r.x), .int .i64 (r.y), .int .i64 (r.u), .int .i64 (r.v)], .int .i64 p.px, .int .i64 p.py] w fun e w' => e = .returned (.agg #[.int .i64 ((insP r p.px p.py).x), .int .i64 ((insP r p.px p.py).y), .int .i64 ((insP r p.px p.py).u), .int .i64 ((insP r p.px p.py).v)]) ∧ Below w.heap.size w w' := sinset_any _ _ _ _ _ _ _ (ins_inB h hr)
theorem anchored_v (p : Pk) (r q : Rc) (a b : Int) (w : World) (h : p.ok = true) (hr : r.ok = true) (hq : q = insP r p.px p.py) (ha : a = p.w ∨ a = (insP r p.px p.py).u) (hb : b = p.h ∨ b = (insP r p.px p.py).v) (S : Rc) (hS : ancP (insP r p.px p.py) a b p.an = S) :
    Calls Try.prog 82 #[.agg #[.int .i64 (q.x), .int .i64 (q.y), .int .i64 (q.u), .int .i64 (q.v)], .int .i64 a, .int .i64 b, .int .i64 p.an] w fun e w' => e = .returned (.agg #[.int .i64 (S.x), .int .i64 (S.y), .int .i64 (S.u), .int .i64 (S.v)]) ∧ Below w.heap.size w w' := by subst hq hS; exact anchored_any _ _ _ _ _ _ _ _ (anc_anB h hr a b ha hb)
theorem sanchored_v (p : Pk) (r q : Rc) (a b : Int) (w : World) (h : p.ok = true) (hr : r.ok = true) (hq : q = insP r p.px p.py) (ha : a = p.w ∨ a = (insP r p.px p.py).u) (hb : b = p.h ∨ b = (insP r p.px p.py).v) (S : Rc) (hS : ancP (insP r p.px p.py) a b p.an = S) :
    Calls Try.prog 81 #[.agg #[.int .i64 (q.x), .int .i64 (q.y), .int .i64 (q.u), .int .i64 (q.v)], .int .i64 a, .int .i64 b, .int .i64 p.an] w fun e w' => e = .returned (.agg #[.int .i64 (S.x), .int .i64 (S.y), .int .i64 (S.u), .int .i64 (S.v)]) ∧ Below w.heap.size w w' := by subst hq hS; exact sanchored_any _ _ _ _ _ _ _ _ (anc_anB h hr a b ha hb)
set_option maxRecDepth 100000 in
theorem inParcel_v (p : Pk) (r : Rc) (w : World) (h : p.ok = true) (hr : r.ok = true) : Calls Try.prog 55 #[.agg #[.int .i64 p.w, .int .i64 p.h, .int .i64 p.s, .bool p.fx, .bool p.fy, .bool p.ex, .int .i64 p.an, .int .i64 p.px, .int .i64 p.py], .agg #[.int .i64 (r.x), .int .i64 (r.y), .int .i64 (r.u), .int .i64 (r.v)]] w fun e w' => e = .returned (.agg #[.int .i64 ((setP p r).x), .int .i64 ((setP p r).y), .int .i64 ((setP p r).u), .int .i64 ((setP p r).v)]) ∧ Below w.heap.size w w' := by
  obtain ⟨S, hS⟩ : ∃ S, setP p r = S := ⟨_, rfl⟩
  rw [hS]
  have HS := Lib.hid hS
  clear hS
  go_enter Try.func55, Try.ntmps55
  go_wp2_with fail
  with_reducible refine (inset_v p r _ h hr).mono ?_
  rintro e w1 ⟨rfl, hb1⟩
  have hP1 := (hb1.block w.heap.size (by simp; omega)).trans ((Below.heap_alloc _ (.cells #[.int .i64 0, .int .i64 0, .int .i64 0, .int .i64 0] 42 (0, 0)) _ (by simp; omega)).trans ((Below.heap_alloc _ (.cells #[.int .i64 r.x, .int .i64 r.y, .int .i64 r.u, .int .i64 r.v] 42 (0, 0)) _ (by simp)).trans (heap_new w (.cells #[.int .i64 p.w, .int .i64 p.h, .int .i64 p.s, .bool p.fx, .bool p.fy, .bool p.ex, .int .i64 p.an, .int .i64 p.px, .int .i64 p.py] 35 (0, 0)))))
  have hI1 := (hb1.block (w.heap.size + 1 + 1) (by simp)).trans (by have e := heap_new ((w.alloc (.cells #[.int .i64 p.w, .int .i64 p.h, .int .i64 p.s, .bool p.fx, .bool p.fy, .bool p.ex, .int .i64 p.an, .int .i64 p.px, .int .i64 p.py] 35 (0, 0))).alloc (.cells #[.int .i64 r.x, .int .i64 r.y, .int .i64 r.u, .int .i64 r.v] 42 (0, 0))) (.cells #[.int .i64 0, .int .i64 0, .int .i64 0, .int .i64 0] 42 (0, 0)); simpa only [World.size_alloc] using e)
  have hB1 : Below w.heap.size w w1 := bkeep2 (balloc (balloc (balloc (Below.refl _ _)))) hb1
  have hls : w.heap.size + 1 + 1 < w1.heap.size := (Array.getElem?_eq_some_iff.1 hI1).1
  obtain ⟨I, hI⟩ : ∃ I, insP r p.px p.py = I := ⟨_, rfl⟩
  rw [hI]
  have c0 := cellH hP1 0
  have c1 := cellH hP1 1
  have c3 := cellH hP1 3
  have c4 := cellH hP1 4
  have c6 := cellH hP1 6
  simp only [List.getElem?_toArray, List.getElem?_cons_zero, List.getElem?_cons_succ] at c0 c1 c3 c4 c6
  have HB := Lib.hid hB1
  have HX := Lib.hid hI1
  have hl0 : w.heap.size < w1.heap.size := by omega
  have hn0 : ¬ w.heap.size = w1.heap.size := by omega
  have HI := Lib.hid hI
  clear hP1 hI1 hb1 hB1 hI
  cases hfx : p.fx <;> cases hfy : p.fy
  · rw [hfx] at c3
    rw [hfy] at c4
    go_wp2_with fail
    go_region
    go_wp2_with fail
    refine (anchored_v p r I p.w p.h _ h hr HI.out.symm (by rw [HI.out]; simp) (by rw [HI.out]; simp) S (by rw [← HS.out]; unfold setP wP hP; simp [hfx, hfy, HI.out])).mono ?_
    rintro e w2 ⟨rfl, hb2⟩
    replace HX := Lib.hid ((hb2.block _ (by simp; omega)).trans ((Below.heap_alloc _ _ _ hls).trans HX.out))
    replace HB := Lib.hid (bkeep2 (Below.drew (balloc HB.out)) hb2)
    clear hb2 c0 c1 c3 c4 c6 hl0 hn0 hls
    obtain ⟨i0, i1, i2, i3⟩ := cells4 HX.out
    have g0 := frozenH HX.out 0
    have g1 := frozenH HX.out 1
    have g2 := frozenH HX.out 2
    have g3 := frozenH HX.out 3
    go_wp2
    refine bp_genP (fun W => W.heap[w.heap.size + 1 + 1]? = some (.cells #[.int .i64 S.x, .int .i64 S.y, .int .i64 S.u, .int .i64 S.v] 42 (0, 0)) ∧ Below w.heap.size w W)
      ⟨pput4z HX.out _ _ _ _, pput4b HB.out (by omega) _ _ _ _ _ _ _ _⟩ ?_
    clear HX HB i0 i1 i2 i3 g0 g1 g2 g3
    rintro W ⟨hW, hB2⟩
    obtain ⟨r0, r1, r2, r3⟩ := cells4 hW
    exact bodyPost_ret (v := .agg #[.int .i64 (S.x), .int .i64 (S.y), .int .i64 (S.u), .int .i64 (S.v)]) (by simp only [results, Try.results55]; go_simp) rfl ⟨rfl, hB2⟩
  · rw [hfx] at c3
    rw [hfy] at c4
    go_wp2_with fail
    go_region
    go_wp2_with fail
    refine (anchored_v p r I p.w I.v _ h hr HI.out.symm (by rw [HI.out]; simp) (by rw [HI.out]; simp) S (by rw [← HS.out]; unfold setP wP hP; simp [hfx, hfy, HI.out])).mono ?_
    rintro e w2 ⟨rfl, hb2⟩
    replace HX := Lib.hid ((hb2.block _ (by simp; omega)).trans ((Below.heap_alloc _ _ _ hls).trans HX.out))
    replace HB := Lib.hid (bkeep2 (Below.drew (balloc HB.out)) hb2)
    clear hb2 c0 c1 c3 c4 c6 hl0 hn0 hls
    obtain ⟨i0, i1, i2, i3⟩ := cells4 HX.out
    have g0 := frozenH HX.out 0
    have g1 := frozenH HX.out 1
    have g2 := frozenH HX.out 2
    have g3 := frozenH HX.out 3
    go_wp2
    refine bp_genP (fun W => W.heap[w.heap.size + 1 + 1]? = some (.cells #[.int .i64 S.x, .int .i64 S.y, .int .i64 S.u, .int .i64 S.v] 42 (0, 0)) ∧ Below w.heap.size w W)
      ⟨pput4z HX.out _ _ _ _, pput4b HB.out (by omega) _ _ _ _ _ _ _ _⟩ ?_
    clear HX HB i0 i1 i2 i3 g0 g1 g2 g3
    rintro W ⟨hW, hB2⟩
    obtain ⟨r0, r1, r2, r3⟩ := cells4 hW
    exact bodyPost_ret (v := .agg #[.int .i64 (S.x), .int .i64 (S.y), .int .i64 (S.u), .int .i64 (S.v)]) (by simp only [results, Try.results55]; go_simp) rfl ⟨rfl, hB2⟩
  · rw [hfx] at c3
    rw [hfy] at c4
    go_wp2_with fail
    go_region
    go_wp2_with fail
    refine (anchored_v p r I I.u p.h _ h hr HI.out.symm (by rw [HI.out]; simp) (by rw [HI.out]; simp) S (by rw [← HS.out]; unfold setP wP hP; simp [hfx, hfy, HI.out])).mono ?_
    rintro e w2 ⟨rfl, hb2⟩
    replace HX := Lib.hid ((hb2.block _ (by simp; omega)).trans ((Below.heap_alloc _ _ _ hls).trans HX.out))
    replace HB := Lib.hid (bkeep2 (Below.drew (balloc HB.out)) hb2)
    clear hb2 c0 c1 c3 c4 c6 hl0 hn0 hls
    obtain ⟨i0, i1, i2, i3⟩ := cells4 HX.out
    have g0 := frozenH HX.out 0
    have g1 := frozenH HX.out 1
    have g2 := frozenH HX.out 2
    have g3 := frozenH HX.out 3
    go_wp2
    refine bp_genP (fun W => W.heap[w.heap.size + 1 + 1]? = some (.cells #[.int .i64 S.x, .int .i64 S.y, .int .i64 S.u, .int .i64 S.v] 42 (0, 0)) ∧ Below w.heap.size w W)
      ⟨pput4z HX.out _ _ _ _, pput4b HB.out (by omega) _ _ _ _ _ _ _ _⟩ ?_
    clear HX HB i0 i1 i2 i3 g0 g1 g2 g3
    rintro W ⟨hW, hB2⟩
    obtain ⟨r0, r1, r2, r3⟩ := cells4 hW
    exact bodyPost_ret (v := .agg #[.int .i64 (S.x), .int .i64 (S.y), .int .i64 (S.u), .int .i64 (S.v)]) (by simp only [results, Try.results55]; go_simp) rfl ⟨rfl, hB2⟩
  · rw [hfx] at c3
    rw [hfy] at c4
    go_wp2_with fail
    go_region
    go_wp2_with fail
    refine (anchored_v p r I I.u I.v _ h hr HI.out.symm (by rw [HI.out]; simp) (by rw [HI.out]; simp) S (by rw [← HS.out]; unfold setP wP hP; simp [hfx, hfy, HI.out])).mono ?_
    rintro e w2 ⟨rfl, hb2⟩
    replace HX := Lib.hid ((hb2.block _ (by simp; omega)).trans ((Below.heap_alloc _ _ _ hls).trans HX.out))
    replace HB := Lib.hid (bkeep2 (Below.drew (balloc HB.out)) hb2)
    clear hb2 c0 c1 c3 c4 c6 hl0 hn0 hls
    obtain ⟨i0, i1, i2, i3⟩ := cells4 HX.out
    have g0 := frozenH HX.out 0
    have g1 := frozenH HX.out 1
    have g2 := frozenH HX.out 2
    have g3 := frozenH HX.out 3
    go_wp2
    refine bp_genP (fun W => W.heap[w.heap.size + 1 + 1]? = some (.cells #[.int .i64 S.x, .int .i64 S.y, .int .i64 S.u, .int .i64 S.v] 42 (0, 0)) ∧ Below w.heap.size w W)
      ⟨pput4z HX.out _ _ _ _, pput4b HB.out (by omega) _ _ _ _ _ _ _ _⟩ ?_
    clear HX HB i0 i1 i2 i3 g0 g1 g2 g3
    rintro W ⟨hW, hB2⟩
    obtain ⟨r0, r1, r2, r3⟩ := cells4 hW
    exact bodyPost_ret (v := .agg #[.int .i64 (S.x), .int .i64 (S.y), .int .i64 (S.u), .int .i64 (S.v)]) (by simp only [results, Try.results55]; go_simp) rfl ⟨rfl, hB2⟩
set_option maxRecDepth 100000 in
theorem settled_v (p : Pk) (r : Rc) (w : World) (h : p.ok = true) (hr : r.ok = true) : Calls Try.prog 53 #[.agg #[.int .i64 p.w, .int .i64 p.h, .int .i64 p.s, .bool p.fx, .bool p.fy, .bool p.ex, .int .i64 p.an, .int .i64 p.px, .int .i64 p.py], .agg #[.int .i64 (r.x), .int .i64 (r.y), .int .i64 (r.u), .int .i64 (r.v)]] w fun e w' => e = .returned (.agg #[.int .i64 ((setP p r).x), .int .i64 ((setP p r).y), .int .i64 ((setP p r).u), .int .i64 ((setP p r).v)]) ∧ Below w.heap.size w w' := by
  obtain ⟨S, hS⟩ : ∃ S, setP p r = S := ⟨_, rfl⟩
  rw [hS]
  have HS := Lib.hid hS
  clear hS
  go_enter Try.func53, Try.ntmps53
  go_wp2_with fail
  with_reducible refine (sinset_v p r _ h hr).mono ?_
  rintro e w1 ⟨rfl, hb1⟩
  have hP1 := (hb1.block w.heap.size (by simp; omega)).trans ((Below.heap_alloc _ (.cells #[.int .i64 0, .int .i64 0, .int .i64 0, .int .i64 0] 42 (0, 0)) _ (by simp; omega)).trans ((Below.heap_alloc _ (.cells #[.int .i64 r.x, .int .i64 r.y, .int .i64 r.u, .int .i64 r.v] 42 (0, 0)) _ (by simp)).trans (heap_new w (.cells #[.int .i64 p.w, .int .i64 p.h, .int .i64 p.s, .bool p.fx, .bool p.fy, .bool p.ex, .int .i64 p.an, .int .i64 p.px, .int .i64 p.py] 35 (0, 0)))))
  have hI1 := (hb1.block (w.heap.size + 1 + 1) (by simp)).trans (by have e := heap_new ((w.alloc (.cells #[.int .i64 p.w, .int .i64 p.h, .int .i64 p.s, .bool p.fx, .bool p.fy, .bool p.ex, .int .i64 p.an, .int .i64 p.px, .int .i64 p.py] 35 (0, 0))).alloc (.cells #[.int .i64 r.x, .int .i64 r.y, .int .i64 r.u, .int .i64 r.v] 42 (0, 0))) (.cells #[.int .i64 0, .int .i64 0, .int .i64 0, .int .i64 0] 42 (0, 0)); simpa only [World.size_alloc] using e)
  have hB1 : Below w.heap.size w w1 := bkeep2 (balloc (balloc (balloc (Below.refl _ _)))) hb1
  have hls : w.heap.size + 1 + 1 < w1.heap.size := (Array.getElem?_eq_some_iff.1 hI1).1
  obtain ⟨I, hI⟩ : ∃ I, insP r p.px p.py = I := ⟨_, rfl⟩
  rw [hI]
  have c0 := cellH hP1 0
  have c1 := cellH hP1 1
  have c3 := cellH hP1 3
  have c4 := cellH hP1 4
  have c6 := cellH hP1 6
  simp only [List.getElem?_toArray, List.getElem?_cons_zero, List.getElem?_cons_succ] at c0 c1 c3 c4 c6
  have HB := Lib.hid hB1
  have HX := Lib.hid hI1
  have hl0 : w.heap.size < w1.heap.size := by omega
  have hn0 : ¬ w.heap.size = w1.heap.size := by omega
  have HI := Lib.hid hI
  clear hP1 hI1 hb1 hB1 hI
  cases hfx : p.fx <;> cases hfy : p.fy
  · rw [hfx] at c3
    rw [hfy] at c4
    go_wp2_with fail
    refine (sanchored_v p r I p.w p.h _ h hr HI.out.symm (by rw [HI.out]; simp) (by rw [HI.out]; simp) S (by rw [← HS.out]; unfold setP wP hP; simp [hfx, hfy, HI.out])).mono ?_
    rintro e w2 ⟨rfl, hb2⟩
    replace HX := Lib.hid ((hb2.block _ (by simp; omega)).trans ((Below.heap_alloc _ _ _ hls).trans HX.out))
    replace HB := Lib.hid (bkeep2 (balloc HB.out) hb2)
    clear hb2 c0 c1 c3 c4 c6 hl0 hn0 hls
    obtain ⟨i0, i1, i2, i3⟩ := cells4 HX.out
    have g0 := frozenH HX.out 0
    have g1 := frozenH HX.out 1
    have g2 := frozenH HX.out 2
    have g3 := frozenH HX.out 3
    go_wp2
    refine bp_genP (fun W => W.heap[w.heap.size + 1 + 1]? = some (.cells #[.int .i64 S.x, .int .i64 S.y, .int .i64 S.u, .int .i64 S.v] 42 (0, 0)) ∧ Below w.heap.size w W)
      ⟨pput4z HX.out _ _ _ _, pput4b HB.out (by omega) _ _ _ _ _ _ _ _⟩ ?_
    clear HX HB i0 i1 i2 i3 g0 g1 g2 g3
    rintro W ⟨hW, hB2⟩
    obtain ⟨r0, r1, r2, r3⟩ := cells4 hW
    exact bodyPost_ret (v := .agg #[.int .i64 (S.x), .int .i64 (S.y), .int .i64 (S.u), .int .i64 (S.v)]) (by simp only [results, Try.results53]; go_simp) rfl ⟨rfl, hB2⟩
  · rw [hfx] at c3
    rw [hfy] at c4
    go_wp2_with fail
    refine (sanchored_v p r I p.w I.v _ h hr HI.out.symm (by rw [HI.out]; simp) (by rw [HI.out]; simp) S (by rw [← HS.out]; unfold setP wP hP; simp [hfx, hfy, HI.out])).mono ?_
    rintro e w2 ⟨rfl, hb2⟩
    replace HX := Lib.hid ((hb2.block _ (by simp; omega)).trans ((Below.heap_alloc _ _ _ hls).trans HX.out))
    replace HB := Lib.hid (bkeep2 (balloc HB.out) hb2)
    clear hb2 c0 c1 c3 c4 c6 hl0 hn0 hls
    obtain ⟨i0, i1, i2, i3⟩ := cells4 HX.out
    have g0 := frozenH HX.out 0
    have g1 := frozenH HX.out 1
    have g2 := frozenH HX.out 2
    have g3 := frozenH HX.out 3
    go_wp2
    refine bp_genP (fun W => W.heap[w.heap.size + 1 + 1]? = some (.cells #[.int .i64 S.x, .int .i64 S.y, .int .i64 S.u, .int .i64 S.v] 42 (0, 0)) ∧ Below w.heap.size w W)
      ⟨pput4z HX.out _ _ _ _, pput4b HB.out (by omega) _ _ _ _ _ _ _ _⟩ ?_
    clear HX HB i0 i1 i2 i3 g0 g1 g2 g3
    rintro W ⟨hW, hB2⟩
    obtain ⟨r0, r1, r2, r3⟩ := cells4 hW
    exact bodyPost_ret (v := .agg #[.int .i64 (S.x), .int .i64 (S.y), .int .i64 (S.u), .int .i64 (S.v)]) (by simp only [results, Try.results53]; go_simp) rfl ⟨rfl, hB2⟩
  · rw [hfx] at c3
    rw [hfy] at c4
    go_wp2_with fail
    refine (sanchored_v p r I I.u p.h _ h hr HI.out.symm (by rw [HI.out]; simp) (by rw [HI.out]; simp) S (by rw [← HS.out]; unfold setP wP hP; simp [hfx, hfy, HI.out])).mono ?_
    rintro e w2 ⟨rfl, hb2⟩
    replace HX := Lib.hid ((hb2.block _ (by simp; omega)).trans ((Below.heap_alloc _ _ _ hls).trans HX.out))
    replace HB := Lib.hid (bkeep2 (balloc HB.out) hb2)
    clear hb2 c0 c1 c3 c4 c6 hl0 hn0 hls
    obtain ⟨i0, i1, i2, i3⟩ := cells4 HX.out
    have g0 := frozenH HX.out 0
    have g1 := frozenH HX.out 1
    have g2 := frozenH HX.out 2
    have g3 := frozenH HX.out 3
    go_wp2
    refine bp_genP (fun W => W.heap[w.heap.size + 1 + 1]? = some (.cells #[.int .i64 S.x, .int .i64 S.y, .int .i64 S.u, .int .i64 S.v] 42 (0, 0)) ∧ Below w.heap.size w W)
      ⟨pput4z HX.out _ _ _ _, pput4b HB.out (by omega) _ _ _ _ _ _ _ _⟩ ?_
    clear HX HB i0 i1 i2 i3 g0 g1 g2 g3
    rintro W ⟨hW, hB2⟩
    obtain ⟨r0, r1, r2, r3⟩ := cells4 hW
    exact bodyPost_ret (v := .agg #[.int .i64 (S.x), .int .i64 (S.y), .int .i64 (S.u), .int .i64 (S.v)]) (by simp only [results, Try.results53]; go_simp) rfl ⟨rfl, hB2⟩
  · rw [hfx] at c3
    rw [hfy] at c4
    go_wp2_with fail
    refine (sanchored_v p r I I.u I.v _ h hr HI.out.symm (by rw [HI.out]; simp) (by rw [HI.out]; simp) S (by rw [← HS.out]; unfold setP wP hP; simp [hfx, hfy, HI.out])).mono ?_
    rintro e w2 ⟨rfl, hb2⟩
    replace HX := Lib.hid ((hb2.block _ (by simp; omega)).trans ((Below.heap_alloc _ _ _ hls).trans HX.out))
    replace HB := Lib.hid (bkeep2 (balloc HB.out) hb2)
    clear hb2 c0 c1 c3 c4 c6 hl0 hn0 hls
    obtain ⟨i0, i1, i2, i3⟩ := cells4 HX.out
    have g0 := frozenH HX.out 0
    have g1 := frozenH HX.out 1
    have g2 := frozenH HX.out 2
    have g3 := frozenH HX.out 3
    go_wp2
    refine bp_genP (fun W => W.heap[w.heap.size + 1 + 1]? = some (.cells #[.int .i64 S.x, .int .i64 S.y, .int .i64 S.u, .int .i64 S.v] 42 (0, 0)) ∧ Below w.heap.size w W)
      ⟨pput4z HX.out _ _ _ _, pput4b HB.out (by omega) _ _ _ _ _ _ _ _⟩ ?_
    clear HX HB i0 i1 i2 i3 g0 g1 g2 g3
    rintro W ⟨hW, hB2⟩
    obtain ⟨r0, r1, r2, r3⟩ := cells4 hW
    exact bodyPost_ret (v := .agg #[.int .i64 (S.x), .int .i64 (S.y), .int .i64 (S.u), .int .i64 (S.v)]) (by simp only [results, Try.results53]; go_simp) rfl ⟨rfl, hB2⟩
end Go.Proofs.Ytjdjahckdgbkbab
end
section
namespace Go.Proofs.Ytjdjahckdgbkbab
open Go.RowKit
set_option linter.unusedVariables false
set_option maxHeartbeats 1000000
attribute [local go_sem] growUpon_value growUpon_skip growUpon_enter
theorem nopan_normal {Q : Exit → Act → World → Prop} {a : Act} {w : World} (h : Q .normal a w) : NoPan Q .normal a w := h
def setL (L : List Pk) (M : List Rc) : List Rc := List.zipWith setP L M
theorem setL_len {L : List Pk} {M : List Rc} (h : M.length = L.length) : (setL L M).length = L.length := by simp [setL, h]
theorem setL_get {L : List Pk} {M : List Rc} {k : Nat} {p : Pk} {r : Rc} (hp : L[k]? = some p) (hr : M[k]? = some r) : (setL L M)[k]? = some (setP p r) := by
  simp [setL, List.getElem?_zipWith, hp, hr]
theorem parcM_ok : ∀ {L : List Pk} {z : Rc}, (∀ p ∈ L, p.ok = true) → z.ok = true → ∀ r ∈ (parcM L z).1, r.ok = true
  | [], z, _, _, r, hr => by simp [parcM] at hr
  | p :: t, z, hL, hz, r, hr => by
    have tk := takeOf_bd hL hz
    have hc := cutP_ok (s := p.s) (n := takeOf p t z) hz tk.1
    simp only [parcM, List.mem_cons] at hr
    rcases hr with rfl | hr
    · exact hc.1
    · exact parcM_ok (fun q hq => hL q (List.mem_cons_of_mem _ hq)) hc.2 r hr
set_option maxRecDepth 100000 in
theorem packRects_v (A : Option Addr) (c : Nat) (L : List Pk) (z0 : Rc) (w : World) (h : PV w A L) (hcap : L.length ≤ c) (hL : vpsB L = true) (hz0 : z0.ok = true) (M : List Rc) (Z : Rc) (hM : parcM L z0 = (M, Z)) :
    Calls Try.prog 39 #[.slice A L.length c, .agg #[.int .i64 (z0.x), .int .i64 (z0.y), .int .i64 (z0.u), .int .i64 (z0.v)]] w fun e w' => (∃ g, e = .returned (.slice (some ⟨g, 0, none⟩) L.length L.length) ∧ w.heap.size ≤ g ∧ Blk4 w' g (setL L M)) ∧ Below w.heap.size w w' := by
  obtain ⟨hok, h7⟩ := vpsB_iff.1 hL
  have hML : M.length = L.length := by have := parcM_len (L := L) (z := z0); rw [hM] at this; exact this
  have hMok : ∀ r ∈ M, r.ok = true := by have := parcM_ok (L := L) (z := z0) hok hz0; rw [hM] at this; exact this
  have HOK := Lib.hid hok
  have HML := Lib.hid hML
  have HMK := Lib.hid hMok
  have HM := Lib.hid hM
  clear hok hML hM hMok
  go_enter Try.func39, Try.ntmps39
  go_wp2_with fail
  refine (packParcels_v A c L z0 _ (h.keep (balloc (Below.refl _ _))) hcap hL hz0 M Z HM.out).mono ?_
  rintro e w1 ⟨⟨g, rfl, hg, hk⟩, hb⟩
  have HB0 := Lib.hid (bkeep2 (balloc (Below.refl _ _)) hb)
  replace hg : w.heap.size ≤ g := by simp only [World.size_alloc] at hg; omega
  have HK0 := Lib.hid hk
  clear hb hk
  go_wp2_with fail
  go_loopw [17] (fun i wr => ∃ k : Nat, k ≤ L.length ∧ i = .int .i64 k ∧ (∃ cs : Array Value, wr.heap[g]? = some (.cells cs 42 (0, 0)) ∧ cs.size = L.length * 4 ∧ (∀ i r, i < k → (setL L M)[i]? = some r → In4 cs (i * 4) r) ∧ (∀ i r, k ≤ i → M[i]? = some r → In4 cs (i * 4) r)) ∧ Below w.heap.size w wr) (fun i _ => L.length - (intOf i).toNat)
  case atStart =>
    obtain ⟨cs, hh, hs, hc⟩ := HK0.out.keep (balloc (Below.refl _ _))
    exact ⟨0, by omega, rfl, ⟨cs, hh, by rw [hs, HML.out], fun i r hi => absurd hi (by omega), fun i r _ hr => hc i r hr⟩, balloc HB0.out⟩
  case round =>
    obtain ⟨k, hk, rfl, ⟨cs, hh, hs, hc, hc'⟩, hB⟩ := hrel
    clear HK0 HB0 HM
    by_cases hlt : k < L.length
    · have hd : decide ((k : Int) < (L.length : Int)) = true := by simpa using hlt
      obtain ⟨b, off, rfl, hb, hps⟩ := (h.keep hB).cells (by omega)
      have hget : L[k]? = some L[k] := List.getElem?_eq_getElem hlt
      obtain ⟨c0, c1, c2, c3, c4, c5, c6, c7, c8⟩ := hps k _ hget
      generalize hx : L[k] = p at *
      have hkM : k < M.length := by rw [HML.out]; exact hlt
      have hgetM : M[k]? = some M[k] := List.getElem?_eq_getElem hkM
      obtain ⟨r0, r1, r2, r3⟩ := (hc' k _ (by omega) hgetM).cells hh
      generalize hy : M[k] = r at *
      have HR := Lib.hid (HMK.out r (List.mem_of_getElem? hgetM))
      have HP := Lib.hid (HOK.out p (List.mem_of_getElem? hget))
      have HG := Lib.hid (setL_get hget hgetM)
      have HH := Lib.hid hh
      have HS := Lib.hid hs
      have HC := Lib.hid hc
      have HC' := Lib.hid hc'
      have HBB := Lib.hid hB
      have hgl : g < wr.heap.size := (Array.getElem?_eq_some_iff.1 hh).1
      have hgn : ¬ g = wr.heap.size := by omega
      clear hget hx hgetM hy hh hs hc hc' hB hps
      go_wp2_with fail
      refine wp_region_grow 9 1 (· < 9) (by kernel_rfl) (by kernel_rfl) rfl ?_
      iterate 9 (refine wpG_step (fun K hK => ?_); apply Exists.intro; refine ⟨.inl ⟨rfl, fun w' hw' => ?_⟩, ?_⟩; (focus ((obtain ⟨hc, hf⟩ := bcell hw'.out); (have hcS := bcellS hw'.out); go_simp <;> first | rfl | (go_at_call 55; exact inParcel_v p r _ HP.out HR.out))); (go_simp; refine hK _ ?_; clear hK K))
      refine wpG_nil ?_
      refine wpK_tail (by kernel_rfl) (fun w2 hg2 => ?_)
      have hB2 : Below wr.heap.size wr w2 := bgrow (Below.drew (balloc (Below.refl _ _))) hg2
      replace HH := Lib.hid ((hB2.block _ hgl).trans HH.out)
      replace HBB := Lib.hid (HBB.out.trans (hB2.mono HBB.out.size))
      clear hg2 hB2 c0 c1 c2 c3 c4 c5 c6 c7 c8 r0 r1 r2 r3 hgl hgn
      have hsz : k * 4 + 4 ≤ cs.size := by rw [HS.out]; omega
      obtain ⟨y0, d0⟩ := there HH.out (i := k * 4) (by omega)
      obtain ⟨y1, d1⟩ := there HH.out (i := k * 4 + 1) (by omega)
      obtain ⟨y2, d2⟩ := there HH.out (i := k * 4 + 2) (by omega)
      obtain ⟨y3, d3⟩ := there HH.out (i := k * 4 + 3) (by omega)
      have f0 := frozenH HH.out (k * 4)
      have f1 := frozenH HH.out (k * 4 + 1)
      have f2 := frozenH HH.out (k * 4 + 2)
      have f3 := frozenH HH.out (k * 4 + 3)
      obtain ⟨S, hS⟩ : ∃ S, setP p r = S := ⟨_, rfl⟩
      rw [hS]
      replace HG : Hid ((setL L M)[k]? = some S) := Lib.hid (by rw [← hS]; exact HG.out)
      have E1 := Lib.hid (pput4 HH.out (k * 4) S)
      have E2 := Lib.hid (pput4b HBB.out hg (k * 4) (k * 4 + 1) (k * 4 + 2) (k * 4 + 3) (.int .i64 S.x) (.int .i64 S.y) (.int .i64 S.u) (.int .i64 S.v))
      clear hS HH HBB
      refine wpAny_one (i := 9) (by kernel_rfl) rfl rfl ?_
      go_simp
      refine wpAny_end (by kernel_rfl) ?_
      refine nopan_normal ?_
      go_wp2
      go_roundw
      case rel => exact ⟨k + 1, by omega, by go_num, ⟨_, E1.out, (writeAt_size _ _ _).trans HS.out, fun i q hi hq => by
        by_cases e : i = k
        · subst e
          obtain rfl : S = q := by have := HG.out; rw [this] at hq; exact Option.some.inj hq
          exact In4.write S hsz
        · exact (HC.out i q (by omega) hq).keep (.inl (by omega)), fun i q hi hq => (HC'.out i q (by omega) hq).keep (.inr (by omega))⟩, E2.out⟩
      case measure => simp [intOf]; omega
    · have hd : decide ((k : Int) < (L.length : Int)) = false := by simp; omega
      obtain rfl : k = L.length := by omega
      have HK := Lib.hid (show Blk4 wr g (setL L M) from ⟨cs, hh, by rw [hs, setL_len HML.out], fun i r hr => hc i r (by have := (List.getElem?_eq_some_iff.1 hr).1; rwa [setL_len HML.out] at this) hr⟩)
      have HBB := Lib.hid hB
      clear hh hs hc hc' hB
      go_wp2
      go_ret
      exact ⟨⟨_, rfl, hg, HK.out⟩, HBB.out⟩
end Go.Proofs.Ytjdjahckdgbkbab
end
