import Derived.Test.YtjdjahckdgbkbabQ04
import Derived.RegionTactic
section
set_option linter.unusedVariables false
namespace Go.Proofs.Ytjdjahckdgbkbab
/-- what items need together: across, down -/
def reqM : List Pk → Int × Int
  | [] => (0, 0)
  | p :: t => if p.down then (mx (reqM t).1 (p.need false), (reqM t).2 + p.need true) else ((reqM t).1 + p.need false, mx (reqM t).2 (p.need true))
def reqD (L : List Pk) (d : Bool) : Int := if d then (reqM L).2 else (reqM L).1
theorem reqD_nil (d : Bool) : reqD [] d = 0 := by cases d <;> rfl
theorem reqD_same {p : Pk} {t : List Pk} {d : Bool} (h : p.down = d) : reqD (p :: t) d = reqD t d + p.need d := by
  cases d <;> simp [reqD, reqM, h]
theorem reqD_other {p : Pk} {t : List Pk} {d : Bool} (h : ¬ p.down = d) : reqD (p :: t) d = mx (reqD t d) (p.need d) := by
  cases d
  · have h' : p.down = true := by simpa using h
    simp [reqD, reqM, h']
  · have h' : p.down = false := by simpa using h
    simp [reqD, reqM, h']
theorem reqM_bd : ∀ {L : List Pk}, (∀ p ∈ L, p.ok = true) → 0 ≤ (reqM L).1 ∧ (reqM L).1 ≤ 50 * L.length ∧ 0 ≤ (reqM L).2 ∧ (reqM L).2 ≤ 50 * L.length
  | [], _ => by simp [reqM]
  | p :: t, h => by
    obtain ⟨a1, a2, a3, a4⟩ := reqM_bd (L := t) (fun q hq => h q (List.mem_cons_of_mem _ hq))
    have n1 := Pk.need_bd (h p List.mem_cons_self) false
    have n2 := Pk.need_bd (h p List.mem_cons_self) true
    have m1 := mx_spec (reqM t).1 (p.need false)
    have m2 := mx_spec (reqM t).2 (p.need true)
    simp only [reqM, List.length_cons]
    split <;> (dsimp only; omega)
theorem reqM_bdW : ∀ {L : List Pk}, (∀ p ∈ L, p.big) → 0 ≤ (reqM L).1 ∧ (reqM L).1 ≤ 1000000000020 * L.length ∧ 0 ≤ (reqM L).2 ∧ (reqM L).2 ≤ 1000000000020 * L.length
  | [], _ => by simp [reqM]
  | p :: t, h => by
    obtain ⟨a1, a2, a3, a4⟩ := reqM_bdW (L := t) (fun q hq => h q (List.mem_cons_of_mem _ hq))
    have n1 := Pk.need_bdW (h p List.mem_cons_self) false
    have n2 := Pk.need_bdW (h p List.mem_cons_self) true
    have m1 := mx_spec (reqM t).1 (p.need false)
    have m2 := mx_spec (reqM t).2 (p.need true)
    simp only [reqM, List.length_cons]
    split <;> (dsimp only; omega)
theorem reqD_bd {L : List Pk} (h : ∀ p ∈ L, p.ok = true) (d : Bool) : 0 ≤ reqD L d ∧ reqD L d ≤ 50 * L.length := by
  obtain ⟨a1, a2, a3, a4⟩ := reqM_bd h
  unfold reqD; split <;> omega
theorem reqM_tail {p : Pk} {t : List Pk} (h : ∀ q ∈ p :: t, q.ok = true) : (reqM t).1 ≤ (reqM (p :: t)).1 ∧ (reqM t).2 ≤ (reqM (p :: t)).2 := by
  have n1 := Pk.need_bd (h p List.mem_cons_self) false
  have n2 := Pk.need_bd (h p List.mem_cons_self) true
  have m1 := mx_spec (reqM t).1 (p.need false)
  have m2 := mx_spec (reqM t).2 (p.need true)
  simp only [reqM]
  split <;> (dsimp only; omega)
/-- the item at the other end -/
def Pk.flip (p : Pk) : Pk := { p with s := if p.s = 0 then 1 else if p.s = 1 then 0 else if p.s = 2 then 3 else 2 }
theorem Pk.flip_ok {p : Pk} (h : p.ok = true) : p.flip.ok = true := by
  have := vpB_iff.1 h
  refine vpB_iff.2 ?_
  unfold Pk.flip
  dsimp only
  refine ⟨this.1, this.2.1, ?_, this.2.2.2⟩
  split
  · omega
  · split
    · omega
    · split <;> omega
theorem Pk.flip_down {p : Pk} (h : p.ok = true) : p.flip.down = p.down := by
  have := vpB_iff.1 h
  unfold Pk.down Pk.flip
  dsimp only
  by_cases h0 : p.s = 0
  · simp [h0]
  · by_cases h1 : p.s = 1
    · simp [h1]
    · by_cases h2 : p.s = 2
      · simp [h2]
      · simp [h0, h1, h2]
theorem Pk.flip_need (p : Pk) (d : Bool) : p.flip.need d = p.need d := by cases d <;> rfl
theorem reqM_flip : ∀ {L : List Pk}, (∀ p ∈ L, p.ok = true) → reqM (L.map Pk.flip) = reqM L
  | [], _ => rfl
  | p :: t, h => by
    have ih := reqM_flip (L := t) (fun q hq => h q (List.mem_cons_of_mem _ hq))
    simp only [List.map_cons, reqM, ih, Pk.flip_need, Pk.flip_down (h p List.mem_cons_self)]
/-- a share is no more than what it begins with -/
theorem shareGo_le : ∀ {L : List Pk} {d : Bool} {sh rm n : Int}, shareGo L d sh rm n ≤ sh
  | [], d, sh, rm, n => (mn_spec _ _).1
  | p :: r, d, sh, rm, n => by
    unfold shareGo
    split
    · exact shareGo_le
    · exact Int.le_trans shareGo_le (mn_spec _ _).1
theorem part_le {x n : Int} (hn : 1 ≤ n) : mx x 0 / n ≤ mx x 0 := Int.ediv_le_self n (by have := mx_spec x 0; omega)
theorem shareGo_room : ∀ {L : List Pk} {d : Bool} {sh rm n : Int}, (∀ p ∈ L, p.ok = true) → 1 ≤ n → shareGo L d sh rm n ≤ mx (rm - reqD L d) 0
  | [], d, sh, rm, n, _, hn => by
    rw [reqD_nil]
    have := mn_spec sh (mx rm 0 / n)
    have := part_le (x := rm) hn
    simp only [shareGo, Int.sub_zero]; omega
  | p :: r, d, sh, rm, n, hL, hn => by
    have hr : ∀ p ∈ r, p.ok = true := fun q hq => hL q (List.mem_cons_of_mem _ hq)
    by_cases h : p.down = d
    · rw [reqD_same h, shareGo, if_pos h]
      have := shareGo_room (L := r) (d := d) (sh := sh) (rm := rm - p.need d) (n := if p.ex then n + 1 else n) hr (by split <;> omega)
      rwa [show rm - p.need d - reqD r d = rm - (reqD r d + p.need d) by omega] at this
    · rw [reqD_other h, shareGo, if_neg h]
      have h1 := shareGo_room (L := r) (d := d) (sh := mn sh (mx (rm - p.need d) 0 / n)) (rm := rm) (n := n) hr hn
      have h2 := shareGo_le (L := r) (d := d) (sh := mn sh (mx (rm - p.need d) 0 / n)) (rm := rm) (n := n)
      have := mn_spec sh (mx (rm - p.need d) 0 / n)
      have := part_le (x := rm - p.need d) hn
      have := mx_spec (reqD r d) (p.need d)
      have := mx_spec (rm - p.need d) 0
      have := mx_spec (rm - reqD r d) 0
      have := mx_spec (rm - mx (reqD r d) (p.need d)) 0
      omega
/-- the share of the first item, which expands in this direction -/
theorem share_room {p : Pk} {t : List Pk} {rm : Int} (hL : ∀ q ∈ p :: t, q.ok = true) (hx : p.ex = true) (h0 : 0 ≤ rm) :
    shareGo (p :: t) p.down rm rm 0 ≤ rm ∧ shareGo (p :: t) p.down rm rm 0 ≤ mx (rm - reqD (p :: t) p.down) 0 := by
  refine ⟨shareGo_le, ?_⟩
  rw [shareGo_same rfl hx, reqD_same rfl]
  have := shareGo_room (L := t) (d := p.down) (sh := rm) (rm := rm - p.need p.down) (n := 0 + 1) (fun q hq => hL q (List.mem_cons_of_mem _ hq)) (by omega)
  rwa [show rm - p.need p.down - reqD t p.down = rm - (reqD t p.down + p.need p.down) by omega] at this
/-- the parcels ahead of the last one do not know of it, if none expands -/
theorem parcM_noex : ∀ {L : List Pk} {z : Rc}, (∀ p ∈ L, p.ex = false) → ∀ n, (parcM (L.take n) z).1 = (parcM L z).1.take n
  | [], z, _, n => by cases n <;> simp [parcM]
  | p :: r, z, h, 0 => by simp [parcM]
  | p :: r, z, h, n + 1 => by
    have hp := h p List.mem_cons_self
    have e : ∀ q, takeOf p q z = p.need p.down + 0 := fun q => by simp [takeOf, moreOf, hp]
    simp only [List.take_succ_cons, parcM, e]
    rw [parcM_noex (fun q hq => h q (List.mem_cons_of_mem _ hq)) n]
/-- a rectangle in another one -/
def Rc.inn (a b : Rc) : Prop := a.x ≤ b.x ∧ a.y ≤ b.y ∧ b.x + b.u ≤ a.x + a.u ∧ b.y + b.v ≤ a.y + a.v
theorem Rc.inn_refl (a : Rc) : a.inn a := by unfold Rc.inn; omega
theorem Rc.inn_trans {a b c : Rc} (h1 : a.inn b) (h2 : b.inn c) : a.inn c := by unfold Rc.inn at *; omega
theorem cutP_inn {r : Rc} {s n : Int} (hr : r.ok = true) (hn : 0 ≤ n) : r.inn (cutP r s n).1 ∧ r.inn (cutP r s n).2 := by
  obtain ⟨a1, a2, a3, a4, a5, a6, a7, a8⟩ := vr_iff.1 hr
  have m1 := mn_spec n r.u
  have m2 := mn_spec n r.v
  unfold cutP Rc.inn
  split
  · dsimp only; omega
  · split
    · dsimp only; omega
    · split
      · dsimp only; omega
      · dsimp only; omega
/-- they have a common point -/
def Rc.met (a b : Rc) : Prop := 0 < mn (a.x + a.u) (b.x + b.u) - mx a.x b.x ∧ 0 < mn (a.y + a.v) (b.y + b.v) - mx a.y b.y
theorem met_inn {a b c d : Rc} (h1 : a.inn c) (h2 : b.inn d) (h : ¬ a.met b) : ¬ c.met d := by
  unfold Rc.met Rc.inn at *
  have := mn_spec (a.x + a.u) (b.x + b.u); have := mx_spec a.x b.x; have := mn_spec (a.y + a.v) (b.y + b.v); have := mx_spec a.y b.y
  have := mn_spec (c.x + c.u) (d.x + d.u); have := mx_spec c.x d.x; have := mn_spec (c.y + c.v) (d.y + d.v); have := mx_spec c.y d.y
  omega
theorem cutP_apart {r : Rc} {s n : Int} (hr : r.ok = true) (hn : 0 ≤ n) : ¬ (cutP r s n).1.met (cutP r s n).2 := by
  obtain ⟨a1, a2, a3, a4, a5, a6, a7, a8⟩ := vr_iff.1 hr
  have m1 := mn_spec n r.u
  have m2 := mn_spec n r.v
  generalize hp : cutP r s n = pr
  have q1 := mn_spec (pr.1.x + pr.1.u) (pr.2.x + pr.2.u); have q2 := mx_spec pr.1.x pr.2.x
  have q3 := mn_spec (pr.1.y + pr.1.v) (pr.2.y + pr.2.v); have q4 := mx_spec pr.1.y pr.2.y
  unfold Rc.met
  unfold cutP at hp
  split at hp
  · subst hp; dsimp only at *; omega
  · split at hp
    · subst hp; dsimp only at *; omega
    · split at hp
      · subst hp; dsimp only at *; omega
      · subst hp; dsimp only at *; omega
def Rc.area (r : Rc) : Int := r.u * r.v
theorem cutP_area (r : Rc) (s n : Int) : (cutP r s n).1.area + (cutP r s n).2.area = r.area := by
  unfold cutP Rc.area
  split
  · dsimp only; rw [← Int.mul_add]; congr 1; omega
  · split
    · dsimp only; rw [← Int.mul_add]; congr 1; omega
    · split
      · dsimp only; rw [← Int.add_mul]; congr 1; omega
      · dsimp only; rw [← Int.add_mul]; congr 1; omega
def areas : List Rc → Int
  | [] => 0
  | r :: t => r.area + areas t
/-- all parcels and what is left: in the rectangle, apart, and all of it -/
theorem parcM_all : ∀ {L : List Pk} {z : Rc}, (∀ p ∈ L, p.ok = true) → z.ok = true →
    (∀ r ∈ (parcM L z).1 ++ [(parcM L z).2], z.inn r) ∧ ((parcM L z).1 ++ [(parcM L z).2]).Pairwise (fun a b => ¬ a.met b) ∧ areas ((parcM L z).1 ++ [(parcM L z).2]) = z.area ∧ (∀ r ∈ (parcM L z).1 ++ [(parcM L z).2], r.ok = true)
  | [], z, _, hz => by
    refine ⟨?_, ?_, ?_, ?_⟩
    · intro r hr; simp [parcM] at hr; subst hr; exact Rc.inn_refl _
    · simp [parcM]
    · simp [parcM, areas]
    · intro r hr; simp [parcM] at hr; subst hr; exact hz
  | p :: t, z, hL, hz => by
    obtain ⟨b1, b2⟩ := takeOf_bd hL hz
    obtain ⟨o1, o2⟩ := cutP_ok (s := p.s) hz b1
    obtain ⟨i1, i2⟩ := cutP_inn (s := p.s) hz b1
    have ha := cutP_apart (s := p.s) hz b1
    have har := cutP_area z p.s (takeOf p t z)
    obtain ⟨h1, h2, h3, h4⟩ := parcM_all (L := t) (z := (cutP z p.s (takeOf p t z)).2) (fun q hq => hL q (List.mem_cons_of_mem _ hq)) o2
    simp only [parcM, List.cons_append]
    refine ⟨?_, ?_, ?_, ?_⟩
    · intro r hr
      rcases List.mem_cons.1 hr with rfl | hr
      · exact i1
      · exact Rc.inn_trans i2 (h1 r hr)
    · refine List.pairwise_cons.2 ⟨fun r hr => ?_, h2⟩
      exact met_inn (Rc.inn_refl _) (h1 r hr) ha
    · simp only [areas, h3]; exact har
    · intro r hr
      rcases List.mem_cons.1 hr with rfl | hr
      · exact o1
      · exact h4 r hr
/-- what is left has no points if the last item expands -/
theorem parcM_last : ∀ {L : List Pk} {z : Rc} (p : Pk), (∀ q ∈ L ++ [p], q.ok = true) → z.ok = true → p.ex = true → (parcM (L ++ [p]) z).2.area = 0
  | [], z, p, hL, hz, hx => by
    have hp : p.ok = true := hL p (by simp)
    obtain ⟨a1, a2, a3, a4, a5, a6, a7, a8⟩ := vr_iff.1 hz
    have hs := (vpB_iff.1 hp).2.2.1
    have nb := Pk.need_bd hp p.down
    have e : takeOf p [] z = p.need p.down + mn (z.size p.down) (mx (z.size p.down - p.need p.down) 0 / 1) := by
      simp [takeOf, moreOf, hx, shareGo]
    rw [Int.ediv_one] at e
    have m1 := mn_spec (z.size p.down) (mx (z.size p.down - p.need p.down) 0)
    have m2 := mx_spec (z.size p.down - p.need p.down) 0
    have hsz := Rc.size_bd hz p.down
    simp only [List.nil_append, parcM]
    have ht : z.size p.down ≤ takeOf p [] z := by rw [e]; omega
    generalize takeOf p [] z = n at *
    have m3 := mn_spec n z.u
    have m4 := mn_spec n z.v
    unfold cutP Rc.area
    by_cases h0 : p.s = 0
    · have hd : p.down = true := by simp [Pk.down, h0]
      rw [hd] at ht; simp [Rc.size] at ht
      rw [if_pos h0]; dsimp only
      rw [show z.v - mn n z.v = 0 by omega, Int.mul_zero]
    · rw [if_neg h0]
      by_cases h1 : p.s = 1
      · have hd : p.down = true := by simp [Pk.down, h1]
        rw [hd] at ht; simp [Rc.size] at ht
        rw [if_pos h1]; dsimp only
        rw [show z.v - mn n z.v = 0 by omega, Int.mul_zero]
      · have hd : p.down = false := by simp [Pk.down, h0, h1]
        rw [hd] at ht; simp [Rc.size] at ht
        rw [if_neg h1]
        split
        · dsimp only; rw [show z.u - mn n z.u = 0 by omega, Int.zero_mul]
        · dsimp only; rw [show z.u - mn n z.u = 0 by omega, Int.zero_mul]
  | q :: t, z, p, hL, hz, hx => by
    have hL' : ∀ r ∈ q :: (t ++ [p]), r.ok = true := hL
    obtain ⟨b1, b2⟩ := takeOf_bd hL' hz
    obtain ⟨o1, o2⟩ := cutP_ok (s := q.s) hz b1
    show (parcM (q :: (t ++ [p])) z).2.area = 0
    simp only [parcM]
    exact parcM_last (L := t) p (fun r hr => hL' r (List.mem_cons_of_mem _ hr)) o2 hx
end Go.Proofs.Ytjdjahckdgbkbab
end
section
namespace Go.Proofs.Ytjdjahckdgbkbab
open Go.RowKit
set_option linter.unusedVariables false
set_option maxHeartbeats 1000000
attribute [local go_sem 5000] run_mx run_mn
set_option maxRecDepth 100000 in
theorem request_w (A : Option Addr) (c : Nat) (L : List Pk) (w : World) (h : PV w A L) (hok : ∀ p ∈ L, p.big) (h7 : L.length ≤ 10) :
    Calls Try.prog 59 #[.slice A L.length c] w fun e w' => e = .returned (.tuple #[.int .i64 (reqM L).1, .int .i64 (reqM L).2]) ∧ Below w.heap.size w w' := by
  have HOK := Lib.hid hok
  clear hok
  go_enter Try.func59, Try.ntmps59
  go_wp2_with fail
  go_loopw [4, 5, 6] (fun a b i wr => ∃ k : Nat, k ≤ L.length ∧ i = .int .i64 ((k : Int) - 1) ∧ a = .int .i64 (reqM (L.drop k)).1 ∧ b = .int .i64 (reqM (L.drop k)).2 ∧ Below w.heap.size w wr) (fun _ _ i _ => (intOf i + 1).toNat)
  case atStart => exact ⟨L.length, Nat.le_refl _, rfl, by rw [List.drop_length]; rfl, by rw [List.drop_length]; rfl, Below.refl _ _⟩
  case round =>
    obtain ⟨k, hk, rfl, rfl, rfl, hB⟩ := hrel
    rcases k with _ | j
    · have hd : decide (((0 : Nat) : Int) - 1 ≥ 0) = false := by simp
      have HBB := Lib.hid hB
      clear hB
      rw [List.drop_zero]
      go_wp2
      exact bodyPost_ret (v := .tuple #[.int .i64 (reqM L).1, .int .i64 (reqM L).2]) (by simp only [results, Try.results59]; go_simp) rfl ⟨rfl, HBB.out⟩
    · have e1 : ((j + 1 : Nat) : Int) - 1 = (j : Int) := by omega
      rw [e1]
      have hlt : j < L.length := by omega
      have hd : decide ((j : Int) ≥ 0) = true := by simp
      have hd2 : decide ((0 : Int) ≤ (j : Int)) = true := by simp
      obtain ⟨b, off, rfl, hb, hps⟩ := (h.keep hB).cells (by omega)
      have hget : L[j]? = some L[j] := List.getElem?_eq_getElem hlt
      obtain ⟨c0, c1, c2, c3, c4, c5, c6, c7, c8⟩ := hps j _ hget
      generalize hx : L[j] = p at *
      have hpk : p.big := HOK.out p (List.mem_of_getElem? hget)
      have hdrop := drop_cons hget
      obtain ⟨q1, q2, q3, q4⟩ := reqM_bdW (L := L.drop (j + 1)) (fun q hq => HOK.out q (List.mem_of_mem_drop hq))
      rw [List.length_drop] at q2 q4
      have n1 := Pk.need_bdW hpk false
      have n2 := Pk.need_bdW hpk true
      obtain ⟨U, hU⟩ : ∃ U, (reqM (L.drop (j + 1))).1 = U := ⟨_, rfl⟩
      obtain ⟨V, hV⟩ : ∃ V, (reqM (L.drop (j + 1))).2 = V := ⟨_, rfl⟩
      rw [hU] at q1 q2
      rw [hV] at q3 q4
      rw [hU, hV]
      have HU := Lib.hid hU
      have HV := Lib.hid hV
      have HD := Lib.hid hdrop
      have HPS := Lib.hid hps
      have HG := Lib.hid hget
      have HBB := Lib.hid hB
      clear hU hV hdrop hx hps hget hB e1
      go_wp2_with fail
      refine (outer_w p _ hpk).mono ?_
      rintro e w1 ⟨rfl, hb1⟩
      have hc9 := (HPS.out j p HG.out).keep (hb1.block b hb)
      obtain ⟨d0, d1, d2, d3, d4, d5, d6, d7, d8⟩ := hc9
      replace HBB := Lib.hid (HBB.out.trans (hb1.mono HBB.out.size))
      clear hb1 c0 c1 c2 c3 c4 c5 c6 c7 c8
      have hjs : IntKind.i64.wrap ((j : Int) - 1) = (j : Int) - 1 := IntWalk.i64_in _ (by omega)
      cases hdn : p.down
      · go_wp2_with fail
        refine (upright_p p _).mono ?_
        rintro e w2 ⟨rfl, rfl⟩
        rw [hdn]
        go_wp2
        go_roundw
        case rel => exact ⟨j, by omega, by go_num, by rw [HD.out]; simp [reqM, hdn, HU.out, HV.out], by rw [HD.out]; simp [reqM, hdn, HU.out, HV.out], HBB.out⟩
        case measure => simp [intOf]
      · go_wp2_with fail
        refine (upright_p p _).mono ?_
        rintro e w2 ⟨rfl, rfl⟩
        rw [hdn]
        go_wp2
        go_roundw
        case rel => exact ⟨j, by omega, by go_num, by rw [HD.out]; simp [reqM, hdn, HU.out, HV.out], by rw [HD.out]; simp [reqM, hdn, HU.out, HV.out], HBB.out⟩
        case measure => simp [intOf]
theorem request_v (A : Option Addr) (c : Nat) (L : List Pk) (w : World) (h : PV w A L) (hL : vpsB L = true) :
    Calls Try.prog 59 #[.slice A L.length c] w fun e w' => e = .returned (.tuple #[.int .i64 (reqM L).1, .int .i64 (reqM L).2]) ∧ Below w.heap.size w w' := by
  obtain ⟨hok, h7⟩ := vpsB_iff.1 hL
  exact request_w A c L w h (fun p hp => Pk.ok_big (hok p hp)) (by omega)
end Go.Proofs.Ytjdjahckdgbkbab
end
section
namespace Go.Proofs.Ytjdjahckdgbkbab
open Go.RowKit
set_option linter.unusedVariables false
set_option maxHeartbeats 1000000
attribute [local go_sem 5000] run_mx run_mn
theorem pvals_get : ∀ {M : List Pk} {i : Nat} {r : Pk}, M[i]? = some r → ∀ j, j < 9 → (pvals M)[i * 9 + j]? = (vals9 r)[j]?
  | [], i, r, h, _, _ => by simp at h
  | q :: t, 0, r, h, j, hj => by
    simp at h; subst h
    show (vals9 q ++ pvals t)[0 * 9 + j]? = _
    rw [List.getElem?_append_left (by simp [vals9]; omega)]; simp
  | q :: t, i + 1, r, h, j, hj => by
    show (vals9 q ++ pvals t)[(i + 1) * 9 + j]? = _
    rw [List.getElem?_append_right (by simp [vals9]; omega)]
    have := pvals_get (M := t) (i := i) (r := r) (by simpa using h) j hj
    rw [← this]; congr 1; simp [vals9]; omega
theorem PV.own {w : World} {base n : Nat} {v : Value} {L : List Pk} {T : TypeId} (h : w.ownsRow base T 9 v n (pvals L)) (hn : n = L.length) : ∃ A c, v = .slice A L.length c ∧ L.length ≤ c ∧ PV w A L ∧ (∀ a, A = some a → base ≤ a.block) := by
  subst hn
  have hl := h.lt
  have hc := fun g hg => h.cells (g := g) hg
  rcases h.2 with ⟨rfl, h0⟩ | ⟨g, cap, cur, rfl, hb, _, hcap, _⟩
  · exact ⟨none, 0, by rw [h0], by omega, ⟨fun h => absurd h (by omega)⟩, fun a e => by cases e⟩
  · refine ⟨_, cap, rfl, hcap, ⟨fun _ => ⟨g, 0, rfl, (hl g rfl).2, fun i r hr => ?_⟩⟩, fun a e => by cases e; exact hb⟩
    have e : ∀ j, j < 9 → ∀ u, (vals9 r)[j]? = some u → w.cell? ⟨g, 0 + i * 9 + j, none⟩ = some u := fun j hj u hu => by
      have h1 := hc g rfl (i * 9 + j) u ((pvals_get hr j hj).trans hu)
      have hadd : (⟨g, 0, none⟩ : Addr).add (i * 9 + j) = ⟨g, 0 + i * 9 + j, none⟩ := by unfold Addr.add; split <;> simp_all
      rwa [hadd] at h1
    exact ⟨e 0 (by omega) _ rfl, e 1 (by omega) _ rfl, e 2 (by omega) _ rfl, e 3 (by omega) _ rfl, e 4 (by omega) _ rfl, e 5 (by omega) _ rfl, e 6 (by omega) _ rfl, e 7 (by omega) _ rfl, e 8 (by omega) _ rfl⟩
theorem own_blw {w w' : World} {base : Nat} {e : TypeId} {size : Nat} {v : Value} {n : Nat} {xs : List Value} (h : w.ownsRow base e size v n xs) (hb : Below w.heap.size w w') : w'.ownsRow base e size v n xs :=
  h.kept (row := none) ⟨hb.os, hb.tape, hb.output, hb.size, fun k hk _ => hb.block k hk⟩ (by
    cases hv : v.ownBlock with
    | none => exact .inl rfl
    | some g => exact .inr (fun e => by cases e))
set_option maxRecDepth 100000 in
theorem roomFor_any {B rb : Nat} {A : Option Addr} {l c m : Nat} (w : World) (h : Rd B rb A l c m w) (hm : m ≤ 700000) :
    Calls Try.prog 41 #[.pointer (some ⟨rb, 0, none⟩)] w fun e w' => (∃ v, ∃ (L : List Pk) (a b : Int), e = .returned (.tuple #[v, .int .i64 a, .int .i64 b]) ∧ w'.ownsRow w.heap.size 35 9 v L.length (pvals L) ∧ L.length ≤ 8) ∧ Rd B rb A l c (m + 300) w' ∧ Chg [rb] w w' := by
  have hlt := h.lt
  go_enter Try.func41, Try.ntmps41
  go_wp2_with fail
  with_reducible refine (somePacks_any _ h hm).mono ?_
  rintro e w1 ⟨⟨v, L, rfl, ho1, hL⟩, hr1, hc1⟩
  have HO := Lib.hid ho1
  have HC := Lib.hid hc1
  clear ho1 hc1 h
  have hw1 : w.heap.size ≤ w1.heap.size := HC.out.size
  go_wp2_with fail
  with_reducible refine (one_lit_in (-1) 401 _ hr1 (by omega) (by simp) (by omega) (by omega) (by simp [isIn])).mono ?_
  rintro e w2 ⟨⟨z1, rfl, z1a, z1b⟩, hr2, hc2⟩
  replace HO := Lib.hid (own_chg HO.out hc2 hlt)
  replace HC := Lib.hid (HC.out.trans hc2)
  clear hr1 hc2
  go_wp2_with fail
  with_reducible refine (one_lit_in 0 400 _ hr2 (by omega) (by simp) (by omega) (by omega) (by simp [isIn])).mono ?_
  rintro e w3 ⟨⟨z2, rfl, z2a, z2b⟩, hr3, hc3⟩
  replace HO := Lib.hid (own_chg HO.out hc3 hlt)
  replace HC := Lib.hid (HC.out.trans hc3)
  clear hr2 hc3
  obtain ⟨A', c', rfl, hcap, hpv, _⟩ := PV.own HO.out rfl
  cases hv : vpsB L
  · go_wp2_with fail
    with_reducible refine (svps_v A' c' L false _ hpv (by omega) hv).mono ?_
    rintro e w4 ⟨rfl, hb4⟩
    replace HO := Lib.hid (own_blw HO.out hb4)
    replace HC := Lib.hid (HC.out.of_below hb4)
    have HR := Lib.hid (hr3.below hb4)
    clear hr3 hb4 hpv hv
    go_wp2
    exact bodyPost_ret (v := .tuple #[.slice A' L.length c', .int .i64 z1, .int .i64 z2]) (by simp only [results, Try.results41]; go_simp) rfl ⟨⟨_, L, z1, z2, rfl, HO.out, hL⟩, HR.out.mono (by omega), HC.out⟩
  · go_wp2_with fail
    with_reducible refine (svps_v A' c' L true _ hpv (by omega) hv).mono ?_
    rintro e w4 ⟨rfl, hb4⟩
    replace HO := Lib.hid (own_blw HO.out hb4)
    replace HC := Lib.hid (HC.out.of_below hb4)
    have hr4 := hr3.below hb4
    have hpv4 := hpv.keep hb4
    clear hr3 hb4 hpv
    go_wp2_with fail
    with_reducible refine (pick_any _ _ hr4 (by omega)).mono ?_
    rintro e w5 ⟨⟨z, rfl, -⟩, hr5, hc5⟩
    replace HO := Lib.hid (own_chg HO.out hc5 hlt)
    replace HC := Lib.hid (HC.out.trans hc5)
    clear hr4 hc5 hpv4
    by_cases hz : z = 0
    · subst hz
      obtain ⟨A'', c'', e2, _, hpv, _⟩ := PV.own HO.out rfl
      obtain ⟨rfl, rfl⟩ : A' = A'' ∧ c' = c'' := by injection e2 with x1 x2 x3; exact ⟨x1, x3⟩
      clear e2
      obtain ⟨q1, q2, q3, q4⟩ := reqM_bd (L := L) (fun p hp => (vpsB_iff.1 hv).1 p hp)
      have hL7 := (vpsB_iff.1 hv).2
      obtain ⟨U, hU⟩ : ∃ U, (reqM L).1 = U := ⟨_, rfl⟩
      obtain ⟨V, hV⟩ : ∃ V, (reqM L).2 = V := ⟨_, rfl⟩
      go_wp2_with fail
      with_reducible refine (request_v A' c' L _ hpv hv).mono ?_
      rw [hU] at q1 q2
      rw [hV] at q3 q4
      rw [hU, hV]
      rintro e w6 ⟨rfl, hb6⟩
      replace HO := Lib.hid (own_blw HO.out hb6)
      replace HC := Lib.hid (HC.out.of_below hb6)
      have hr6 := hr5.below hb6
      clear hr5 hb6 hpv hU hV hv
      go_wp2_with fail
      with_reducible refine (one_lit_in (-3) 40 _ hr6 (by omega) (by simp) (by omega) (by omega) (by simp [isIn])).mono ?_
      rintro e w7 ⟨⟨z3, rfl, z3a, z3b⟩, hr7, hc7⟩
      replace HO := Lib.hid (own_chg HO.out hc7 hlt)
      replace HC := Lib.hid (HC.out.trans hc7)
      clear hr6 hc7
      go_wp2_with fail
      with_reducible refine (one_lit_in (-2) 30 _ hr7 (by omega) (by simp) (by omega) (by omega) (by simp [isIn])).mono ?_
      rintro e w8 ⟨⟨z4, rfl, z4a, z4b⟩, hr8, hc8⟩
      replace HO := Lib.hid (own_chg HO.out hc8 hlt)
      replace HC := Lib.hid (HC.out.trans hc8)
      have HR := Lib.hid hr8
      clear hr7 hc8 hr8
      go_wp2
      exact bodyPost_ret (v := .tuple #[.slice A' L.length c', .int .i64 (mx 0 (U + z3)), .int .i64 (mx 0 (V + z4))]) (by simp only [results, Try.results41]; go_simp) rfl ⟨⟨_, L, _, _, rfl, HO.out, hL⟩, HR.out.mono (by omega), HC.out⟩
    · have hz' : (z == 0) = false := by simpa using hz
      have HR := Lib.hid hr5
      clear hr5 hv
      go_wp2
      exact bodyPost_ret (v := .tuple #[.slice A' L.length c', .int .i64 z1, .int .i64 z2]) (by simp only [results, Try.results41]; go_simp) rfl ⟨⟨_, L, z1, z2, rfl, HO.out, hL⟩, HR.out.mono (by omega), HC.out⟩
end Go.Proofs.Ytjdjahckdgbkbab
end
section
namespace Go.Proofs.Ytjdjahckdgbkbab
open Go.RowKit
set_option linter.unusedVariables false
set_option maxHeartbeats 1000000
set_option maxRecDepth 100000 in
theorem DrawPackParcels_any (A : Option Addr) (n c : Nat) (w : World) (h : Bts w A n) (hn : n ≤ c) (hc : c ≤ maxLen) :
    Calls Try.prog 30 #[.slice A n c] w fun e w' => (∃ (A' : Option Addr) (c' : Nat) (L : List Pk) (a b : Int), e = .returned (.tuple #[.slice A' L.length c', .int .i64 a, .int .i64 b]) ∧ L.length ≤ 8 ∧ L.length ≤ c' ∧ PV w' A' L) ∧ Below w.heap.size w w' := by
  go_enter Try.func30, Try.ntmps30
  go_wp2_with fail
  with_reducible refine (newReader_any A n c _ h hn hc).mono ?_
  rintro e w1 ⟨n', rfl, hr1, hc1⟩
  go_wp2_with fail
  with_reducible refine (roomFor_any _ hr1 (by omega)).mono ?_
  rintro e w2 ⟨⟨v, L, a, b, rfl, ho, hL⟩, hr2, hc2⟩
  obtain ⟨A', c', rfl, hcap, hpv, _⟩ := PV.own ho rfl
  have HP := Lib.hid hpv
  have HB := Lib.hid (Chg.below ((hc1.mono (by simp)).trans hc2) (Nat.le_refl _) (by simp))
  clear ho hr2 hc2 hr1 hc1 hpv
  go_wp2
  exact bodyPost_ret (v := .tuple #[.slice A' L.length c', .int .i64 a, .int .i64 b]) (by simp only [results, Try.results30]; go_simp) rfl ⟨⟨A', c', L, a, b, rfl, hL, hcap, HP.out⟩, HB.out⟩
set_option maxRecDepth 100000 in
theorem DrawPackLeft_any (A : Option Addr) (n c : Nat) (w : World) (h : Bts w A n) (hn : n ≤ c) (hc : c ≤ maxLen) :
    Calls Try.prog 24 #[.slice A n c] w fun e w' => (∃ (A' : Option Addr) (c' : Nat) (L : List Pk) (a b : Int), e = .returned (.tuple #[.slice A' L.length c', .int .i64 a, .int .i64 b]) ∧ L.length ≤ 8 ∧ L.length ≤ c' ∧ PV w' A' L) ∧ Below w.heap.size w w' := by
  go_enter Try.func24, Try.ntmps24
  go_wp2_with fail
  with_reducible refine (newReader_any A n c _ h hn hc).mono ?_
  rintro e w1 ⟨n', rfl, hr1, hc1⟩
  go_wp2_with fail
  with_reducible refine (roomFor_any _ hr1 (by omega)).mono ?_
  rintro e w2 ⟨⟨v, L, a, b, rfl, ho, hL⟩, hr2, hc2⟩
  obtain ⟨A', c', rfl, hcap, hpv, _⟩ := PV.own ho rfl
  have HP := Lib.hid hpv
  have HB := Lib.hid (Chg.below ((hc1.mono (by simp)).trans hc2) (Nat.le_refl _) (by simp))
  clear ho hr2 hc2 hr1 hc1 hpv
  go_wp2
  exact bodyPost_ret (v := .tuple #[.slice A' L.length c', .int .i64 a, .int .i64 b]) (by simp only [results, Try.results24]; go_simp) rfl ⟨⟨A', c', L, a, b, rfl, hL, hcap, HP.out⟩, HB.out⟩
set_option maxRecDepth 100000 in
theorem DrawPackRects_any (A : Option Addr) (n c : Nat) (w : World) (h : Bts w A n) (hn : n ≤ c) (hc : c ≤ maxLen) :
    Calls Try.prog 17 #[.slice A n c] w fun e w' => (∃ (A' : Option Addr) (c' : Nat) (L : List Pk) (a b : Int), e = .returned (.tuple #[.slice A' L.length c', .int .i64 a, .int .i64 b]) ∧ L.length ≤ 8 ∧ L.length ≤ c' ∧ PV w' A' L) ∧ Below w.heap.size w w' := by
  go_enter Try.func17, Try.ntmps17
  go_wp2_with fail
  with_reducible refine (newReader_any A n c _ h hn hc).mono ?_
  rintro e w1 ⟨n', rfl, hr1, hc1⟩
  go_wp2_with fail
  with_reducible refine (roomFor_any _ hr1 (by omega)).mono ?_
  rintro e w2 ⟨⟨v, L, a, b, rfl, ho, hL⟩, hr2, hc2⟩
  obtain ⟨A', c', rfl, hcap, hpv, _⟩ := PV.own ho rfl
  have HP := Lib.hid hpv
  have HB := Lib.hid (Chg.below ((hc1.mono (by simp)).trans hc2) (Nat.le_refl _) (by simp))
  clear ho hr2 hc2 hr1 hc1 hpv
  go_wp2
  exact bodyPost_ret (v := .tuple #[.slice A' L.length c', .int .i64 a, .int .i64 b]) (by simp only [results, Try.results17]; go_simp) rfl ⟨⟨A', c', L, a, b, rfl, hL, hcap, HP.out⟩, HB.out⟩
set_option maxRecDepth 100000 in
theorem DrawPackFits_any (A : Option Addr) (n c : Nat) (w : World) (h : Bts w A n) (hn : n ≤ c) (hc : c ≤ maxLen) :
    Calls Try.prog 14 #[.slice A n c] w fun e w' => (∃ (A' : Option Addr) (c' : Nat) (L : List Pk) (a b : Int), e = .returned (.tuple #[.slice A' L.length c', .int .i64 a, .int .i64 b]) ∧ L.length ≤ 8 ∧ L.length ≤ c' ∧ PV w' A' L) ∧ Below w.heap.size w w' := by
  go_enter Try.func14, Try.ntmps14
  go_wp2_with fail
  with_reducible refine (newReader_any A n c _ h hn hc).mono ?_
  rintro e w1 ⟨n', rfl, hr1, hc1⟩
  go_wp2_with fail
  with_reducible refine (roomFor_any _ hr1 (by omega)).mono ?_
  rintro e w2 ⟨⟨v, L, a, b, rfl, ho, hL⟩, hr2, hc2⟩
  obtain ⟨A', c', rfl, hcap, hpv, _⟩ := PV.own ho rfl
  have HP := Lib.hid hpv
  have HB := Lib.hid (Chg.below ((hc1.mono (by simp)).trans hc2) (Nat.le_refl _) (by simp))
  clear ho hr2 hc2 hr1 hc1 hpv
  go_wp2
  exact bodyPost_ret (v := .tuple #[.slice A' L.length c', .int .i64 a, .int .i64 b]) (by simp only [results, Try.results14]; go_simp) rfl ⟨⟨A', c', L, a, b, rfl, hL, hcap, HP.out⟩, HB.out⟩
end Go.Proofs.Ytjdjahckdgbkbab
end
section
namespace Go.Proofs.Ytjdjahckdgbkbab
open Go.RowKit
/-- behind a region that draws its order -/
theorem bdrewn {W w' : World} (h : Below W.drew.heap.size W.drew w') : Below W.heap.size W w' := (Below.refl _ _).drew.trans h
end Go.Proofs.Ytjdjahckdgbkbab
end
section
set_option linter.unusedVariables false
namespace Go.Proofs.Ytjdjahckdgbkbab
def hpB (x y u v p q : Int) : Bool := decide (x ≤ p ∧ p < x + u ∧ y ≤ q ∧ q < y + v)
theorem hpB_iff {x y u v p q : Int} : hpB x y u v p q = true ↔ (x ≤ p ∧ p < x + u ∧ y ≤ q ∧ q < y + v) := by simp only [hpB, decide_eq_true_eq]
theorem hpB_not {x y u v p q : Int} : hpB x y u v p q = false ↔ ¬ (x ≤ p ∧ p < x + u ∧ y ≤ q ∧ q < y + v) := by unfold hpB; exact decide_eq_false_iff_not
theorem hpB_n1 {x y u v p q : Int} (h : ¬ x ≤ p) : hpB x y u v p q = false := by rw [hpB_not]; omega
theorem hpB_n2 {x y u v p q : Int} (h : ¬ p < x + u) : hpB x y u v p q = false := by rw [hpB_not]; omega
theorem hpB_n3 {x y u v p q : Int} (h : ¬ y ≤ q) : hpB x y u v p q = false := by rw [hpB_not]; omega
theorem hpB_n4 {x y u v p q : Int} (h : ¬ q < y + v) : hpB x y u v p q = false := by rw [hpB_not]; omega
theorem hpB_y {x y u v p q : Int} (h1 : x ≤ p) (h2 : p < x + u) (h3 : y ≤ q) (h4 : q < y + v) : hpB x y u v p q = true := by rw [hpB_iff]; omega
theorem rng_n {p a b : Int} (h1 : ¬ p < b) : rng p a (b - 1) = false := by rw [rng_not]; omega
theorem hpB_sp {x y u v p q : Int} : hpB x y u v p q = (rng p x (x + u - 1) && rng q y (y + v - 1)) := by
  rw [Bool.eq_iff_iff, hpB_iff, Bool.and_eq_true, rng_iff, rng_iff]; omega
end Go.Proofs.Ytjdjahckdgbkbab
namespace Go.Proofs.Ytjdjahckdgbkbab
def meetB (x y u v x' y' u' v' : Int) : Bool := vr x y u v && vr x' y' u' v' && hitB x y u v x' y' u' v'
theorem meetB_yes {x y u v x' y' u' v' : Int} (h : meetB x y u v x' y' u' v' = true) : vr x y u v = true ∧ vr x' y' u' v' = true ∧ hitB x y u v x' y' u' v' = true := by
  simp only [meetB, Bool.and_eq_true] at h; exact ⟨h.1.1, h.1.2, h.2⟩
theorem meetB_hit {x y u v x' y' u' v' : Int} (h : meetB x y u v x' y' u' v' = false) (h1 : vr x y u v = true) (h2 : vr x' y' u' v' = true) : hitB x y u v x' y' u' v' = false := by
  simpa [meetB, h1, h2] using h
def covB (x y u v x' y' u' v' : Int) : Bool := vr (mn x x') (mn y y') (mx (x + u) (x' + u') - mn x x') (mx (y + v) (y' + v') - mn y y')
def coverB (x y u v x' y' u' v' : Int) : Bool := vr x y u v && vr x' y' u' v' && covB x y u v x' y' u' v'
theorem coverB_yes {x y u v x' y' u' v' : Int} (h : coverB x y u v x' y' u' v' = true) : vr x y u v = true ∧ vr x' y' u' v' = true ∧ vr (mn x x') (mn y y') (mx (x + u) (x' + u') - mn x x') (mx (y + v) (y' + v') - mn y y') = true := by
  simp only [coverB, Bool.and_eq_true] at h; exact ⟨h.1.1, h.1.2, h.2⟩
theorem coverB_no {x y u v x' y' u' v' : Int} (h : coverB x y u v x' y' u' v' = false) (h1 : vr x y u v = true) (h2 : vr x' y' u' v' = true) : vr (mn x x') (mn y y') (mx (x + u) (x' + u') - mn x x') (mx (y + v) (y' + v') - mn y y') = false := by
  simpa [coverB, covB, h1, h2] using h
theorem cover_bds {x y u v x' y' u' v' : Int} (h1 : vr x y u v = true) (h2 : vr x' y' u' v' = true) : -1000 ≤ mn x x' ∧ mn x x' ≤ 1000 ∧ -1000 ≤ mn y y' ∧ mn y y' ≤ 1000 ∧ -1000 ≤ mx (x + u) (x' + u') ∧ mx (x + u) (x' + u') ≤ 1000 ∧ -1000 ≤ mx (y + v) (y' + v') ∧ mx (y + v) (y' + v') ≤ 1000 := by
  rw [vr_iff] at h1 h2
  obtain ⟨m1, m2⟩ := mn_bd (a := x) (b := x') (-1000) 1000 (by omega) (by omega) (by omega) (by omega)
  obtain ⟨m3, m4⟩ := mn_bd (a := y) (b := y') (-1000) 1000 (by omega) (by omega) (by omega) (by omega)
  obtain ⟨m5, m6⟩ := mx_bd (a := x + u) (b := x' + u') (-1000) 1000 (by omega) (by omega) (by omega) (by omega)
  obtain ⟨m7, m8⟩ := mx_bd (a := y + v) (b := y' + v') (-1000) 1000 (by omega) (by omega) (by omega) (by omega)
  exact ⟨m1, m2, m3, m4, m5, m6, m7, m8⟩
def insB (x y u v x' y' u' v' : Int) : Bool := decide (x ≤ x' ∧ y ≤ y' ∧ x' + u' ≤ x + u ∧ y' + v' ≤ y + v)
theorem insB_iff {x y u v x' y' u' v' : Int} : insB x y u v x' y' u' v' = true ↔ (x ≤ x' ∧ y ≤ y' ∧ x' + u' ≤ x + u ∧ y' + v' ≤ y + v) := by simp only [insB, decide_eq_true_eq]
theorem insB_not {x y u v x' y' u' v' : Int} : insB x y u v x' y' u' v' = false ↔ ¬ (x ≤ x' ∧ y ≤ y' ∧ x' + u' ≤ x + u ∧ y' + v' ≤ y + v) := by unfold insB; exact decide_eq_false_iff_not
theorem holds_eq {x y u v x' y' u' v' : Int} (h1 : vr x y u v = true) (h2 : vr x' y' u' v' = true) :
    (mn x x' = x ∧ mn y y' = y ∧ mx (x + u) (x' + u') - mn x x' = u ∧ mx (y + v) (y' + v') - mn y y' = v) ↔ (x ≤ x' ∧ y ≤ y' ∧ x' + u' ≤ x + u ∧ y' + v' ≤ y + v) := by
  have := mn_spec x x'; have := mn_spec y y'; have := mx_spec (x + u) (x' + u'); have := mx_spec (y + v) (y' + v')
  omega
end Go.Proofs.Ytjdjahckdgbkbab
end
section
namespace Go.Proofs.Ytjdjahckdgbkbab
open Go.RowKit
set_option linter.unusedVariables false
attribute [local go_sem 5000] run_mx run_mn
attribute [local go_sem] growUpon_value growUpon_skip growUpon_enter
set_option maxHeartbeats 1000000
end Go.Proofs.Ytjdjahckdgbkbab
end
section
set_option linter.unusedVariables false
namespace Go.Proofs.Ytjdjahckdgbkbab
def mvB (x y u v p q : Int) : Bool := vr x y u v && rng p (-1000) 1000 && rng q (-1000) 1000 && vr (x + p) (y + q) u v
theorem mvB_yes {x y u v p q : Int} (h : mvB x y u v p q = true) : vr x y u v = true ∧ rng p (-1000) 1000 = true ∧ rng q (-1000) 1000 = true ∧ vr (x + p) (y + q) u v = true := by
  simp only [mvB, Bool.and_eq_true] at h; exact ⟨h.1.1.1, h.1.1.2, h.1.2, h.2⟩
theorem mvB_no {x y u v p q : Int} (h : mvB x y u v p q = false) (h1 : vr x y u v = true) (h2 : rng p (-1000) 1000 = true) (h3 : rng q (-1000) 1000 = true) : vr (x + p) (y + q) u v = false := by
  simpa [mvB, h1, h2, h3] using h
def inB (x y u v p q : Int) : Bool := vr x y u v && rng p 0 10 && rng q 0 10
theorem inB_yes {x y u v p q : Int} (h : inB x y u v p q = true) : vr x y u v = true ∧ rng p 0 10 = true ∧ rng q 0 10 = true := by
  simp only [inB, Bool.and_eq_true] at h; exact ⟨h.1.1, h.1.2, h.2⟩
theorem inB_no {x y u v p q : Int} (h : inB x y u v p q = false) (h1 : vr x y u v = true) (h2 : rng p 0 10 = true) : rng q 0 10 = false := by
  simpa [inB, h1, h2] using h
theorem mx_comm (a b : Int) : mx a b = mx b a := by unfold mx; split <;> split <;> omega
theorem in_bds {x y u v p q : Int} (h : inB x y u v p q = true) : 0 ≤ mn p (u / 2) ∧ mn p (u / 2) ≤ 10 ∧ 0 ≤ mn q (v / 2) ∧ mn q (v / 2) ≤ 10 ∧ 0 ≤ mx (u - 2 * p) 0 ∧ mx (u - 2 * p) 0 ≤ 400 ∧ 0 ≤ mx (v - 2 * q) 0 ∧ mx (v - 2 * q) 0 ≤ 400 := by
  obtain ⟨h1, h2, h3⟩ := inB_yes h
  rw [vr_iff] at h1; rw [rng_iff] at h2 h3
  have := mn_spec p (u / 2); have := mn_spec q (v / 2); have := mx_spec (u - 2 * p) 0; have := mx_spec (v - 2 * q) 0
  omega
def anB (x y u v p q k : Int) : Bool := vr x y u v && rng p 0 400 && rng q 0 400 && rng k 0 8
theorem anB_yes {x y u v p q k : Int} (h : anB x y u v p q k = true) : vr x y u v = true ∧ rng p 0 400 = true ∧ rng q 0 400 = true ∧ rng k 0 8 = true := by
  simp only [anB, Bool.and_eq_true] at h; exact ⟨h.1.1.1, h.1.1.2, h.1.2, h.2⟩
theorem anB_no {x y u v p q k : Int} (h : anB x y u v p q k = false) (h1 : vr x y u v = true) (h2 : rng p 0 400 = true) (h3 : rng q 0 400 = true) : rng k 0 8 = false := by
  simpa [anB, h1, h2, h3] using h
def ctB (x y u v s n : Int) : Bool := vr x y u v && rng s 0 3 && rng n 0 400
theorem ctB_yes {x y u v s n : Int} (h : ctB x y u v s n = true) : vr x y u v = true ∧ rng s 0 3 = true ∧ rng n 0 400 = true := by
  simp only [ctB, Bool.and_eq_true] at h; exact ⟨h.1.1, h.1.2, h.2⟩
theorem ctB_no {x y u v s n : Int} (h : ctB x y u v s n = false) (h1 : vr x y u v = true) (h2 : rng s 0 3 = true) : rng n 0 400 = false := by
  simpa [ctB, h1, h2] using h
end Go.Proofs.Ytjdjahckdgbkbab
namespace Go.Proofs.Ytjdjahckdgbkbab
theorem area_bds {x y u v : Int} (h : vr x y u v = true) : 0 ≤ u * v ∧ u * v ≤ 160000 := by
  obtain ⟨a1, a2, a3, a4, _⟩ := vr_iff.1 h
  exact ⟨Int.mul_nonneg a1 a3, Int.le_trans (Int.mul_le_mul a2 a4 a3 (by omega)) (by omega)⟩
end Go.Proofs.Ytjdjahckdgbkbab
namespace Go.Proofs.Ytjdjahckdgbkbab
theorem prod_bds {a b : Int} (h1 : 0 ≤ a) (h2 : a ≤ 400) (h3 : 0 ≤ b) (h4 : b ≤ 2) : 0 ≤ a * b ∧ a * b ≤ 800 :=
  ⟨Int.mul_nonneg h1 h3, Int.le_trans (Int.mul_le_mul h2 h4 h3 (by omega)) (by omega)⟩
theorem an_bds {x y u v p q k : Int} (h : anB x y u v p q k = true) : 0 ≤ mn p u ∧ mn p u ≤ u ∧ 0 ≤ mn q v ∧ mn q v ≤ v ∧ 0 ≤ k % 3 ∧ k % 3 ≤ 2 ∧ 0 ≤ k / 3 ∧ k / 3 ≤ 2 ∧ 0 ≤ (u - mn p u) * (k % 3) ∧ (u - mn p u) * (k % 3) ≤ 800 ∧ 0 ≤ (v - mn q v) * (k / 3) ∧ (v - mn q v) * (k / 3) ≤ 800 := by
  obtain ⟨h1, h2, h3, h4⟩ := anB_yes h
  rw [vr_iff] at h1; rw [rng_iff] at h2 h3 h4
  have g1 := mn_spec p u; have g2 := mn_spec q v
  have e1 := prod_bds (a := u - mn p u) (b := k % 3) (by omega) (by omega) (by omega) (by omega)
  have e2 := prod_bds (a := v - mn q v) (b := k / 3) (by omega) (by omega) (by omega) (by omega)
  omega
end Go.Proofs.Ytjdjahckdgbkbab
end
section
namespace Go.Proofs.Ytjdjahckdgbkbab
open Go.RowKit
set_option linter.unusedVariables false
attribute [local go_sem 5000] run_mx run_mn run_eqlR run_neqR
attribute [local go_sem] growUpon_value growUpon_skip growUpon_enter
set_option maxHeartbeats 1000000
theorem box4 {w : World} {b : Nat} {t0 t1 t2 t3 : Value} (v0 v1 v2 v3 : Value) (h0 : w.cell? ⟨b, 0, none⟩ = some t0) (h1 : w.cell? ⟨b, 1, none⟩ = some t1) (h2 : w.cell? ⟨b, 2, none⟩ = some t2) (h3 : w.cell? ⟨b, 3, none⟩ = some t3) :
    ((((w.setCell ⟨b, 0, none⟩ v0).setCell ⟨b, 1, none⟩ v1).setCell ⟨b, 2, none⟩ v2).setCell ⟨b, 3, none⟩ v3).cell? ⟨b, 0, none⟩ = some v0 ∧ ((((w.setCell ⟨b, 0, none⟩ v0).setCell ⟨b, 1, none⟩ v1).setCell ⟨b, 2, none⟩ v2).setCell ⟨b, 3, none⟩ v3).cell? ⟨b, 1, none⟩ = some v1 ∧
    ((((w.setCell ⟨b, 0, none⟩ v0).setCell ⟨b, 1, none⟩ v1).setCell ⟨b, 2, none⟩ v2).setCell ⟨b, 3, none⟩ v3).cell? ⟨b, 2, none⟩ = some v2 ∧ ((((w.setCell ⟨b, 0, none⟩ v0).setCell ⟨b, 1, none⟩ v1).setCell ⟨b, 2, none⟩ v2).setCell ⟨b, 3, none⟩ v3).cell? ⟨b, 3, none⟩ = some v3 ∧
    ∀ c o, c ≠ b → ((((w.setCell ⟨b, 0, none⟩ v0).setCell ⟨b, 1, none⟩ v1).setCell ⟨b, 2, none⟩ v2).setCell ⟨b, 3, none⟩ v3).cell? ⟨c, o, none⟩ = w.cell? ⟨c, o, none⟩ := by
  have ne : ∀ i j : Nat, i ≠ j → (⟨b, i, none⟩ : Addr) ≠ ⟨b, j, none⟩ := fun i j h e => h (by injection e)
  have nb : ∀ c i o : Nat, c ≠ b → (⟨b, i, none⟩ : Addr) ≠ ⟨c, o, none⟩ := fun c i o h e => h (by injection e with e1; exact e1.symm)
  refine ⟨?_, ?_, ?_, ?_, fun c o hc => ?_⟩
  · rw [World.cell?_setCell_other _ _ _ _ (ne 3 0 (by decide)), World.cell?_setCell_other _ _ _ _ (ne 2 0 (by decide)), World.cell?_setCell_other _ _ _ _ (ne 1 0 (by decide))]
    exact World.cell?_setCell_same _ _ _ h0
  · rw [World.cell?_setCell_other _ _ _ _ (ne 3 1 (by decide)), World.cell?_setCell_other _ _ _ _ (ne 2 1 (by decide))]
    exact World.cell?_setCell_same _ _ _ ((World.cell?_setCell_other _ _ _ _ (ne 0 1 (by decide))).trans h1)
  · rw [World.cell?_setCell_other _ _ _ _ (ne 3 2 (by decide))]
    exact World.cell?_setCell_same _ _ _ (((World.cell?_setCell_other _ _ _ _ (ne 1 2 (by decide))).trans (World.cell?_setCell_other _ _ _ _ (ne 0 2 (by decide)))).trans h2)
  · exact World.cell?_setCell_same _ _ _ ((((World.cell?_setCell_other _ _ _ _ (ne 2 3 (by decide))).trans (World.cell?_setCell_other _ _ _ _ (ne 1 3 (by decide)))).trans (World.cell?_setCell_other _ _ _ _ (ne 0 3 (by decide)))).trans h3)
  · rw [World.cell?_setCell_other _ _ _ _ (nb c 3 o hc), World.cell?_setCell_other _ _ _ _ (nb c 2 o hc), World.cell?_setCell_other _ _ _ _ (nb c 1 o hc), World.cell?_setCell_other _ _ _ _ (nb c 0 o hc)]
theorem corners_eq (l t r b W H : Int) (w : World) (hS : Sm l t r b) (hW : r - l = W) (hH : b - t = H) :
    Calls Try.prog 75 #[.int .i64 l, .int .i64 t, .int .i64 r, .int .i64 b] w fun e w' => e = .returned (.agg #[.int .i64 (l), .int .i64 (t), .int .i64 (W), .int .i64 (H)]) ∧ Below w.heap.size w w' := by
  subst hW hH
  exact corners_any l t r b w hS
set_option maxRecDepth 100000 in
theorem cutTop_any (x y u v n m k : Int) (w : World) (h1 : vr x y u v = true) (h2 : 0 ≤ n) (hm : mn n v = m) (hk : v - m = k) :
    Calls Try.prog 88 #[.agg #[.int .i64 (x), .int .i64 (y), .int .i64 (u), .int .i64 (v)], .int .i64 n] w fun e w' => e = .returned (.tuple #[.agg #[.int .i64 (x), .int .i64 (y), .int .i64 (u), .int .i64 (m)], .agg #[.int .i64 (x), .int .i64 (y + m), .int .i64 (u), .int .i64 (k)]]) ∧ Below w.heap.size w w' := by
  obtain ⟨a1, a2, a3, a4, a5, a6, a7, a8⟩ := vr_iff.1 h1
  have g := mn_spec n v
  rw [hm] at g
  have g1 : 0 ≤ m := by omega
  have g2 : m ≤ v := by omega
  have S1 := Sm_vr h1
  have S2 : Sm x y (x + u) (y + m) := Sm_of (by omega)
  have S3 : Sm x (y + m) (x + u) (y + v) := Sm_of (by omega)
  clear g h1
  have hk1 : v - m ≤ k := by omega
  have hk2 : k ≤ v - m := by omega
  clear hk
  go_enter Try.func88, Try.ntmps88
  go_wp2_with fail
  refine wp_region_grow 16 2 (· < 16) (by kernel_rfl) (by kernel_rfl) rfl ?_
  iterate 16 (refine wpG_step (fun K hK => ?_); apply Exists.intro; refine ⟨.inl ⟨rfl, fun w' hw' => ?_⟩, ?_⟩; (focus ((obtain ⟨hc, hf⟩ := bcell hw'.out); (have hcS := bcellS hw'.out); go_simp <;> first | rfl | (go_at_call 76; exact right_any _ _ _ _ _ (by assumption)) | (go_at_call 77; exact bottom_any _ _ _ _ _ (by assumption)) | (go_at_call 75; refine corners_eq _ _ _ _ u m _ ?_ ?_ ?_; assumption; omega; omega) | (go_at_call 75; refine corners_eq _ _ _ _ u k _ ?_ ?_ ?_; assumption; omega; omega))); (go_simp; refine hK _ ?_; clear hK K))
  refine wpG_nil ?_
  refine wpK_tail (by kernel_rfl) (fun wt1 ht1 => ?_)
  obtain ⟨hct1, hft1⟩ := bcell ht1.out
  have kb0_0 : wt1.cell? ⟨w.heap.size + 1, 0, none⟩ = some (.int .i64 (0)) := by go_simp
  have kg0_0 : wt1.frozen? ⟨w.heap.size + 1, 0, none⟩ = false := by go_simp
  have kb0_1 : wt1.cell? ⟨w.heap.size + 1, 1, none⟩ = some (.int .i64 (0)) := by go_simp
  have kg0_1 : wt1.frozen? ⟨w.heap.size + 1, 1, none⟩ = false := by go_simp
  have kb0_2 : wt1.cell? ⟨w.heap.size + 1, 2, none⟩ = some (.int .i64 (0)) := by go_simp
  have kg0_2 : wt1.frozen? ⟨w.heap.size + 1, 2, none⟩ = false := by go_simp
  have kb0_3 : wt1.cell? ⟨w.heap.size + 1, 3, none⟩ = some (.int .i64 (0)) := by go_simp
  have kg0_3 : wt1.frozen? ⟨w.heap.size + 1, 3, none⟩ = false := by go_simp
  have kb1_0 : wt1.cell? ⟨w.heap.size + 1 + 1, 0, none⟩ = some (.int .i64 (0)) := by go_simp
  have kg1_0 : wt1.frozen? ⟨w.heap.size + 1 + 1, 0, none⟩ = false := by go_simp
  have kb1_1 : wt1.cell? ⟨w.heap.size + 1 + 1, 1, none⟩ = some (.int .i64 (0)) := by go_simp
  have kg1_1 : wt1.frozen? ⟨w.heap.size + 1 + 1, 1, none⟩ = false := by go_simp
  have kb1_2 : wt1.cell? ⟨w.heap.size + 1 + 1, 2, none⟩ = some (.int .i64 (0)) := by go_simp
  have kg1_2 : wt1.frozen? ⟨w.heap.size + 1 + 1, 2, none⟩ = false := by go_simp
  have kb1_3 : wt1.cell? ⟨w.heap.size + 1 + 1, 3, none⟩ = some (.int .i64 (0)) := by go_simp
  have kg1_3 : wt1.frozen? ⟨w.heap.size + 1 + 1, 3, none⟩ = false := by go_simp
  clear hct1 hft1
  refine wpAny_one (i := 16) (by kernel_rfl) rfl rfl ?_
  go_simp
  refine wpAny_one (i := 17) (by kernel_rfl) rfl rfl ?_
  go_simp
  refine wpAny_end (by kernel_rfl) ?_
  have XA := box4 (w := wt1) (b := w.heap.size + 1) (.int .i64 (x)) (.int .i64 (y)) (.int .i64 (u)) (.int .i64 (m)) kb0_0 kb0_1 kb0_2 kb0_3
  have XB := box4 (b := w.heap.size + 1 + 1) (.int .i64 (x)) (.int .i64 (y + m)) (.int .i64 (u)) (.int .i64 (k)) ((XA.2.2.2.2 (w.heap.size + 1 + 1) 0 (by omega)).trans kb1_0) ((XA.2.2.2.2 (w.heap.size + 1 + 1) 1 (by omega)).trans kb1_1) ((XA.2.2.2.2 (w.heap.size + 1 + 1) 2 (by omega)).trans kb1_2) ((XA.2.2.2.2 (w.heap.size + 1 + 1) 3 (by omega)).trans kb1_3)
  refine NoPan.gen (fun wf => Below w.heap.size w wf ∧ wf.cell? ⟨w.heap.size + 1, 0, none⟩ = some (.int .i64 (x)) ∧ wf.cell? ⟨w.heap.size + 1, 1, none⟩ = some (.int .i64 (y)) ∧ wf.cell? ⟨w.heap.size + 1, 2, none⟩ = some (.int .i64 (u)) ∧ wf.cell? ⟨w.heap.size + 1, 3, none⟩ = some (.int .i64 (m)) ∧ wf.cell? ⟨w.heap.size + 1 + 1, 0, none⟩ = some (.int .i64 (x)) ∧ wf.cell? ⟨w.heap.size + 1 + 1, 1, none⟩ = some (.int .i64 (y + m)) ∧ wf.cell? ⟨w.heap.size + 1 + 1, 2, none⟩ = some (.int .i64 (u)) ∧ wf.cell? ⟨w.heap.size + 1 + 1, 3, none⟩ = some (.int .i64 (k))) ⟨(by repeat (first | with_reducible exact Below.refl _ _ | with_reducible assumption | with_reducible refine balloc ?_ | (with_reducible refine bset ?_ ?_; rotate_left; ((try dsimp only); omega)) | refine bkeep2 ?_ (by assumption) | with_reducible refine Below.drew ?_)), (XB.2.2.2.2 (w.heap.size + 1) 0 (by omega)).trans XA.1, (XB.2.2.2.2 (w.heap.size + 1) 1 (by omega)).trans XA.2.1, (XB.2.2.2.2 (w.heap.size + 1) 2 (by omega)).trans XA.2.2.1, (XB.2.2.2.2 (w.heap.size + 1) 3 (by omega)).trans XA.2.2.2.1, XB.1, XB.2.1, XB.2.2.1, XB.2.2.2.1⟩ (fun wf hwf => ?_)
  clear XA XB kb0_0 kb0_1 kb0_2 kb0_3 kb1_0 kb1_1 kb1_2 kb1_3 kg0_0 kg0_1 kg0_2 kg0_3 kg1_0 kg1_1 kg1_2 kg1_3
  obtain ⟨hBf, z0, z1, z2, z3, z4, z5, z6, z7⟩ := hwf
  go_wp2
  exact bodyPost_ret (v := .tuple #[.agg #[.int .i64 (x), .int .i64 (y), .int .i64 (u), .int .i64 (m)], .agg #[.int .i64 (x), .int .i64 (y + m), .int .i64 (u), .int .i64 (k)]]) (by simp only [results, Try.results88]; go_simp) rfl ⟨rfl, (by repeat (first | with_reducible exact Below.refl _ _ | with_reducible assumption | with_reducible refine balloc ?_ | (with_reducible refine bset ?_ ?_; rotate_left; ((try dsimp only); omega)) | refine bkeep2 ?_ (by assumption) | with_reducible refine Below.drew ?_))⟩
set_option maxRecDepth 100000 in
theorem cutLeft_any (x y u v n m k : Int) (w : World) (h1 : vr x y u v = true) (h2 : 0 ≤ n) (hm : mn n u = m) (hk : u - m = k) :
    Calls Try.prog 90 #[.agg #[.int .i64 (x), .int .i64 (y), .int .i64 (u), .int .i64 (v)], .int .i64 n] w fun e w' => e = .returned (.tuple #[.agg #[.int .i64 (x), .int .i64 (y), .int .i64 (m), .int .i64 (v)], .agg #[.int .i64 (x + m), .int .i64 (y), .int .i64 (k), .int .i64 (v)]]) ∧ Below w.heap.size w w' := by
  obtain ⟨a1, a2, a3, a4, a5, a6, a7, a8⟩ := vr_iff.1 h1
  have g := mn_spec n u
  rw [hm] at g
  have g1 : 0 ≤ m := by omega
  have g2 : m ≤ u := by omega
  have S1 := Sm_vr h1
  have S2 : Sm x y (x + m) (y + v) := Sm_of (by omega)
  have S3 : Sm (x + m) y (x + u) (y + v) := Sm_of (by omega)
  clear g h1
  have hk1 : u - m ≤ k := by omega
  have hk2 : k ≤ u - m := by omega
  clear hk
  go_enter Try.func90, Try.ntmps90
  go_wp2_with fail
  refine wp_region_grow 16 2 (· < 16) (by kernel_rfl) (by kernel_rfl) rfl ?_
  iterate 16 (refine wpG_step (fun K hK => ?_); apply Exists.intro; refine ⟨.inl ⟨rfl, fun w' hw' => ?_⟩, ?_⟩; (focus ((obtain ⟨hc, hf⟩ := bcell hw'.out); (have hcS := bcellS hw'.out); go_simp <;> first | rfl | (go_at_call 76; exact right_any _ _ _ _ _ (by assumption)) | (go_at_call 77; exact bottom_any _ _ _ _ _ (by assumption)) | (go_at_call 75; refine corners_eq _ _ _ _ m v _ ?_ ?_ ?_; assumption; omega; omega) | (go_at_call 75; refine corners_eq _ _ _ _ k v _ ?_ ?_ ?_; assumption; omega; omega))); (go_simp; refine hK _ ?_; clear hK K))
  refine wpG_nil ?_
  refine wpK_tail (by kernel_rfl) (fun wt1 ht1 => ?_)
  obtain ⟨hct1, hft1⟩ := bcell ht1.out
  have kb0_0 : wt1.cell? ⟨w.heap.size + 1, 0, none⟩ = some (.int .i64 (0)) := by go_simp
  have kg0_0 : wt1.frozen? ⟨w.heap.size + 1, 0, none⟩ = false := by go_simp
  have kb0_1 : wt1.cell? ⟨w.heap.size + 1, 1, none⟩ = some (.int .i64 (0)) := by go_simp
  have kg0_1 : wt1.frozen? ⟨w.heap.size + 1, 1, none⟩ = false := by go_simp
  have kb0_2 : wt1.cell? ⟨w.heap.size + 1, 2, none⟩ = some (.int .i64 (0)) := by go_simp
  have kg0_2 : wt1.frozen? ⟨w.heap.size + 1, 2, none⟩ = false := by go_simp
  have kb0_3 : wt1.cell? ⟨w.heap.size + 1, 3, none⟩ = some (.int .i64 (0)) := by go_simp
  have kg0_3 : wt1.frozen? ⟨w.heap.size + 1, 3, none⟩ = false := by go_simp
  have kb1_0 : wt1.cell? ⟨w.heap.size + 1 + 1, 0, none⟩ = some (.int .i64 (0)) := by go_simp
  have kg1_0 : wt1.frozen? ⟨w.heap.size + 1 + 1, 0, none⟩ = false := by go_simp
  have kb1_1 : wt1.cell? ⟨w.heap.size + 1 + 1, 1, none⟩ = some (.int .i64 (0)) := by go_simp
  have kg1_1 : wt1.frozen? ⟨w.heap.size + 1 + 1, 1, none⟩ = false := by go_simp
  have kb1_2 : wt1.cell? ⟨w.heap.size + 1 + 1, 2, none⟩ = some (.int .i64 (0)) := by go_simp
  have kg1_2 : wt1.frozen? ⟨w.heap.size + 1 + 1, 2, none⟩ = false := by go_simp
  have kb1_3 : wt1.cell? ⟨w.heap.size + 1 + 1, 3, none⟩ = some (.int .i64 (0)) := by go_simp
  have kg1_3 : wt1.frozen? ⟨w.heap.size + 1 + 1, 3, none⟩ = false := by go_simp
  clear hct1 hft1
  refine wpAny_one (i := 16) (by kernel_rfl) rfl rfl ?_
  go_simp
  refine wpAny_one (i := 17) (by kernel_rfl) rfl rfl ?_
  go_simp
  refine wpAny_end (by kernel_rfl) ?_
  have XA := box4 (w := wt1) (b := w.heap.size + 1) (.int .i64 (x)) (.int .i64 (y)) (.int .i64 (m)) (.int .i64 (v)) kb0_0 kb0_1 kb0_2 kb0_3
  have XB := box4 (b := w.heap.size + 1 + 1) (.int .i64 (x + m)) (.int .i64 (y)) (.int .i64 (k)) (.int .i64 (v)) ((XA.2.2.2.2 (w.heap.size + 1 + 1) 0 (by omega)).trans kb1_0) ((XA.2.2.2.2 (w.heap.size + 1 + 1) 1 (by omega)).trans kb1_1) ((XA.2.2.2.2 (w.heap.size + 1 + 1) 2 (by omega)).trans kb1_2) ((XA.2.2.2.2 (w.heap.size + 1 + 1) 3 (by omega)).trans kb1_3)
  refine NoPan.gen (fun wf => Below w.heap.size w wf ∧ wf.cell? ⟨w.heap.size + 1, 0, none⟩ = some (.int .i64 (x)) ∧ wf.cell? ⟨w.heap.size + 1, 1, none⟩ = some (.int .i64 (y)) ∧ wf.cell? ⟨w.heap.size + 1, 2, none⟩ = some (.int .i64 (m)) ∧ wf.cell? ⟨w.heap.size + 1, 3, none⟩ = some (.int .i64 (v)) ∧ wf.cell? ⟨w.heap.size + 1 + 1, 0, none⟩ = some (.int .i64 (x + m)) ∧ wf.cell? ⟨w.heap.size + 1 + 1, 1, none⟩ = some (.int .i64 (y)) ∧ wf.cell? ⟨w.heap.size + 1 + 1, 2, none⟩ = some (.int .i64 (k)) ∧ wf.cell? ⟨w.heap.size + 1 + 1, 3, none⟩ = some (.int .i64 (v))) ⟨(by repeat (first | with_reducible exact Below.refl _ _ | with_reducible assumption | with_reducible refine balloc ?_ | (with_reducible refine bset ?_ ?_; rotate_left; ((try dsimp only); omega)) | refine bkeep2 ?_ (by assumption) | with_reducible refine Below.drew ?_)), (XB.2.2.2.2 (w.heap.size + 1) 0 (by omega)).trans XA.1, (XB.2.2.2.2 (w.heap.size + 1) 1 (by omega)).trans XA.2.1, (XB.2.2.2.2 (w.heap.size + 1) 2 (by omega)).trans XA.2.2.1, (XB.2.2.2.2 (w.heap.size + 1) 3 (by omega)).trans XA.2.2.2.1, XB.1, XB.2.1, XB.2.2.1, XB.2.2.2.1⟩ (fun wf hwf => ?_)
  clear XA XB kb0_0 kb0_1 kb0_2 kb0_3 kb1_0 kb1_1 kb1_2 kb1_3 kg0_0 kg0_1 kg0_2 kg0_3 kg1_0 kg1_1 kg1_2 kg1_3
  obtain ⟨hBf, z0, z1, z2, z3, z4, z5, z6, z7⟩ := hwf
  go_wp2
  exact bodyPost_ret (v := .tuple #[.agg #[.int .i64 (x), .int .i64 (y), .int .i64 (m), .int .i64 (v)], .agg #[.int .i64 (x + m), .int .i64 (y), .int .i64 (k), .int .i64 (v)]]) (by simp only [results, Try.results90]; go_simp) rfl ⟨rfl, (by repeat (first | with_reducible exact Below.refl _ _ | with_reducible assumption | with_reducible refine balloc ?_ | (with_reducible refine bset ?_ ?_; rotate_left; ((try dsimp only); omega)) | refine bkeep2 ?_ (by assumption) | with_reducible refine Below.drew ?_))⟩
end Go.Proofs.Ytjdjahckdgbkbab
end
