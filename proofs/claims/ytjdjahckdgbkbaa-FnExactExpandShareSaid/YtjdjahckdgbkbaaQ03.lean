import Derived.Test.YtjdjahckdgbkbaaQ02
section
namespace Go.Proofs.Ytjdjahckdgbkbaa
open Go.RowKit
set_option linter.unusedVariables false
set_option maxHeartbeats 1000000
attribute [local go_sem 5000] run_mx run_mn
def esB (L : List Pk) (room : Int) (d : Bool) : Bool := vpsB L && (match L with
  | [] => false
  | p :: _ => rng room 0 400 && (p.ex && (p.down == d)))
theorem esB_yes {L : List Pk} {room : Int} {d : Bool} (h : esB L room d = true) : ∃ p r, L = p :: r ∧ vpsB L = true ∧ rng room 0 400 = true ∧ p.ex = true ∧ p.down = d := by
  unfold esB at h
  rw [Bool.and_eq_true] at h
  obtain ⟨h1, h2⟩ := h
  match L, h1, h2 with
  | p :: r, h1, h2 =>
    simp only [Bool.and_eq_true, beq_iff_eq] at h2
    exact ⟨p, r, rfl, h1, h2.1, h2.2.1, h2.2.2⟩
theorem esB_no {L : List Pk} {room : Int} {d : Bool} (h : esB L room d = false) : L = [] ∨ (∃ p r, L = p :: r ∧ (vpsB L = false ∨ (vpsB L = true ∧ rng room 0 400 = false) ∨ (vpsB L = true ∧ rng room 0 400 = true ∧ p.ex = false) ∨ (vpsB L = true ∧ rng room 0 400 = true ∧ p.ex = true ∧ (p.down == d) = false))) := by
  match L, h with
  | [], _ => exact .inl rfl
  | p :: r, h =>
    refine .inr ⟨p, r, rfl, ?_⟩
    unfold esB at h
    cases h1 : vpsB (p :: r)
    · exact .inl rfl
    · cases h2 : rng room 0 400
      · exact .inr (.inl ⟨rfl, rfl⟩)
      · cases h3 : p.ex
        · exact .inr (.inr (.inl ⟨rfl, rfl, rfl⟩))
        · simp [h1, h2, h3] at h
          exact .inr (.inr (.inr ⟨rfl, rfl, rfl, by simpa using h⟩))
theorem first_cells {w : World} {A : Option Addr} {L : List Pk} {p : Pk} {r : List Pk} (h : PV w A L) (e : L = p :: r) : ∃ b off, A = some ⟨b, off, none⟩ ∧ b < w.heap.size ∧ Cells9 w b off p := by
  subst e
  obtain ⟨b, off, e, hb, hp⟩ := h.cells (by simp)
  have := hp 0 p rfl
  exact ⟨b, off, e, hb, by simpa using this⟩
theorem vps_v (A : Option Addr) (c : Nat) (L : List Pk) (b : Bool) (w : World) (h : PV w A L) (hL : L.length ≤ 1048576) (hb : vpsB L = b) :
    Calls Try.prog 37 #[.slice A L.length c] w fun e w' => e = .returned (.bool b) ∧ Below w.heap.size w w' := by rw [← hb]; exact validPacks_any A c L w h hL
theorem svps_v (A : Option Addr) (c : Nat) (L : List Pk) (b : Bool) (w : World) (h : PV w A L) (hL : L.length ≤ 1048576) (hb : vpsB L = b) :
    Calls Try.prog 35 #[.slice A L.length c] w fun e w' => e = .returned (.bool b) ∧ Below w.heap.size w w' := by rw [← hb]; exact svalidPacks_any A c L w h hL
theorem within_v (n a b : Int) (t : Bool) (w : World) (h : rng n a b = t) : Calls Try.prog 34 #[.int .i64 n, .int .i64 a, .int .i64 b] w fun e w' => e = .returned (.bool t) ∧ w = w' := by rw [← h]; exact within_any n a b w
theorem inRange_v (n a b : Int) (t : Bool) (w : World) (h : rng n a b = t) : Calls Try.prog 40 #[.int .i64 n, .int .i64 a, .int .i64 b] w fun e w' => e = .returned (.bool t) ∧ w = w' := by rw [← h]; exact inRange_any n a b w
set_option maxRecDepth 100000 in
theorem ExpandShare_yes (A : Option Addr) (c : Nat) (L : List Pk) (room : Int) (d : Bool) (w : World) (h : PV w A L) (hL : L.length ≤ 1048576) (hE : esB L room d = true) :
    Calls Try.prog 18 #[.slice A L.length c, .int .i64 room, .bool d] w fun e w' => e = .returned (.int .i64 (shareGo L d room room 0)) ∧ Below w.heap.size w w' := by
  obtain ⟨p, r, e0, hv, hr, hx, hdn⟩ := esB_yes hE
  obtain ⟨hr1, hr2⟩ := rng_iff.1 hr
  obtain ⟨g, off, eA, hg, hc⟩ := first_cells h e0
  have heq : (p.down == d) = true := by simp [hdn]
  have hlen : ((L.length : Int) == 0) = false := by rw [e0]; simp; omega
  have hlp : 0 < L.length := by rw [e0]; simp
  have hex := hx
  have HE := Lib.hid e0
  clear e0 hE
  subst eA
  go_enter Try.func18, Try.ntmps18
  go_wp2_with fail
  with_reducible refine (vps_v _ c L true _ h hL hv).mono ?_
  rintro e w1 ⟨rfl, hbb⟩
  have HB := Lib.hid hbb
  try (obtain ⟨c0, c1, c2, c3, c4, c5, c6, c7, c8⟩ := hc.keep (hbb.block g hg))
  try (rw [hex] at c5)
  clear hbb
  go_wp2_with fail
  with_reducible refine (within_v _ _ _ true _ hr).mono ?_
  rintro e w2 ⟨rfl, rfl⟩
  go_wp2_with fail
  with_reducible refine (isDown_x p _ _).mono ?_
  rintro e w3 ⟨rfl, hbb⟩
  replace HB := Lib.hid (bkeep2 HB.out hbb)
  clear hbb c0 c1 c2 c3 c4 c5 c6 c7 c8
  go_wp2_with fail
  with_reducible refine (expandShare_v _ c L room d _ (h.keep HB.out) hv p r HE.out hdn hx hr1 hr2).mono ?_
  rintro e w4 ⟨rfl, hbb⟩
  replace HB := Lib.hid (bkeep2 HB.out hbb)
  clear hbb
  go_wp2
  go_ret
  exact ⟨rfl, HB.out⟩
set_option maxRecDepth 100000 in
theorem ExpandShare_no (A : Option Addr) (c : Nat) (L : List Pk) (room : Int) (d : Bool) (w : World) (h : PV w A L) (hL : L.length ≤ 1048576) (hE : esB L room d = false) :
    Calls Try.prog 18 #[.slice A L.length c, .int .i64 room, .bool d] w fun e w' => e = .returned (.int .i64 (-1)) ∧ Below w.heap.size w w' := by
  rcases esB_no hE with rfl | ⟨p, r, e0, hcase⟩
  · clear hE
    go_enter Try.func18, Try.ntmps18
    go_wp2
    go_ret
    exact ⟨rfl, Below.refl _ _⟩
  · obtain ⟨g, off, eA, hg, hc⟩ := first_cells h e0
    have hlen : ((L.length : Int) == 0) = false := by rw [e0]; simp; omega
    have hlp : 0 < L.length := by rw [e0]; simp
    subst eA
    clear e0 hE
    rcases hcase with hv | ⟨hv, hr⟩ | ⟨hv, hr, hex⟩ | ⟨hv, hr, hex, heq⟩
    · skip
      go_enter Try.func18, Try.ntmps18
      go_wp2_with fail
      with_reducible refine (vps_v _ c L false _ h hL hv).mono ?_
      rintro e w1 ⟨rfl, hbb⟩
      have HB := Lib.hid hbb
      clear hbb
      go_wp2
      go_ret
      exact ⟨rfl, HB.out⟩
    · skip
      go_enter Try.func18, Try.ntmps18
      go_wp2_with fail
      with_reducible refine (vps_v _ c L true _ h hL hv).mono ?_
      rintro e w1 ⟨rfl, hbb⟩
      have HB := Lib.hid hbb
      try (obtain ⟨c0, c1, c2, c3, c4, c5, c6, c7, c8⟩ := hc.keep (hbb.block g hg))
      try (rw [hex] at c5)
      clear hbb
      go_wp2_with fail
      with_reducible refine (within_v _ _ _ false _ hr).mono ?_
      rintro e w2 ⟨rfl, rfl⟩
      go_wp2
      go_ret
      exact ⟨rfl, HB.out⟩
    · skip
      go_enter Try.func18, Try.ntmps18
      go_wp2_with fail
      with_reducible refine (vps_v _ c L true _ h hL hv).mono ?_
      rintro e w1 ⟨rfl, hbb⟩
      have HB := Lib.hid hbb
      try (obtain ⟨c0, c1, c2, c3, c4, c5, c6, c7, c8⟩ := hc.keep (hbb.block g hg))
      try (rw [hex] at c5)
      clear hbb
      go_wp2_with fail
      with_reducible refine (within_v _ _ _ true _ hr).mono ?_
      rintro e w2 ⟨rfl, rfl⟩
      go_wp2
      go_ret
      exact ⟨rfl, HB.out⟩
    · skip
      go_enter Try.func18, Try.ntmps18
      go_wp2_with fail
      with_reducible refine (vps_v _ c L true _ h hL hv).mono ?_
      rintro e w1 ⟨rfl, hbb⟩
      have HB := Lib.hid hbb
      try (obtain ⟨c0, c1, c2, c3, c4, c5, c6, c7, c8⟩ := hc.keep (hbb.block g hg))
      try (rw [hex] at c5)
      clear hbb
      go_wp2_with fail
      with_reducible refine (within_v _ _ _ true _ hr).mono ?_
      rintro e w2 ⟨rfl, rfl⟩
      go_wp2_with fail
      with_reducible refine (isDown_x p _ _).mono ?_
      rintro e w3 ⟨rfl, hbb⟩
      replace HB := Lib.hid (bkeep2 HB.out hbb)
      clear hbb c0 c1 c2 c3 c4 c5 c6 c7 c8
      go_wp2
      go_ret
      exact ⟨rfl, HB.out⟩
set_option maxRecDepth 100000 in
theorem sExpandShare_yes (A : Option Addr) (c : Nat) (L : List Pk) (room : Int) (d : Bool) (w : World) (h : PV w A L) (hL : L.length ≤ 1048576) (hE : esB L room d = true) :
    Calls Try.prog 17 #[.slice A L.length c, .int .i64 room, .bool d] w fun e w' => e = .returned (.int .i64 (shareGo L d room room 0)) ∧ Below w.heap.size w w' := by
  obtain ⟨p, r, e0, hv, hr, hx, hdn⟩ := esB_yes hE
  obtain ⟨hr1, hr2⟩ := rng_iff.1 hr
  obtain ⟨g, off, eA, hg, hc⟩ := first_cells h e0
  have heq : (p.down == d) = true := by simp [hdn]
  have hlen : ((L.length : Int) == 0) = false := by rw [e0]; simp; omega
  have hlp : 0 < L.length := by rw [e0]; simp
  have hex := hx
  have HE := Lib.hid e0
  clear e0 hE
  subst eA
  go_enter Try.func17, Try.ntmps17
  go_wp2_with fail
  with_reducible refine (svps_v _ c L true _ h hL hv).mono ?_
  rintro e w1 ⟨rfl, hbb⟩
  have HB := Lib.hid hbb
  try (obtain ⟨c0, c1, c2, c3, c4, c5, c6, c7, c8⟩ := hc.keep (hbb.block g hg))
  try (rw [hex] at c5)
  clear hbb
  go_wp2_with fail
  with_reducible refine (inRange_v _ _ _ true _ hr).mono ?_
  rintro e w2 ⟨rfl, rfl⟩
  go_wp2_with fail
  with_reducible refine (upright_p p _).mono ?_
  rintro e w3 ⟨rfl, rfl⟩
  go_wp2_with fail
  with_reducible refine (share_v _ c L room d _ (h.keep HB.out) hv p r HE.out hdn hx hr1 hr2).mono ?_
  rintro e w4 ⟨rfl, hbb⟩
  replace HB := Lib.hid (bkeep2 HB.out hbb)
  clear hbb
  go_wp2
  go_ret
  exact ⟨rfl, HB.out⟩
set_option maxRecDepth 100000 in
theorem sExpandShare_no (A : Option Addr) (c : Nat) (L : List Pk) (room : Int) (d : Bool) (w : World) (h : PV w A L) (hL : L.length ≤ 1048576) (hE : esB L room d = false) :
    Calls Try.prog 17 #[.slice A L.length c, .int .i64 room, .bool d] w fun e w' => e = .returned (.int .i64 (-1)) ∧ Below w.heap.size w w' := by
  rcases esB_no hE with rfl | ⟨p, r, e0, hcase⟩
  · clear hE
    have hv : vpsB [] = true := rfl
    go_enter Try.func17, Try.ntmps17
    go_wp2_with fail
    refine (svps_v _ c [] true _ h hL hv).mono ?_
    rintro e w1 ⟨rfl, hbb⟩
    have HB := Lib.hid hbb
    clear hbb
    go_wp2
    go_ret
    exact ⟨rfl, HB.out⟩
  · obtain ⟨g, off, eA, hg, hc⟩ := first_cells h e0
    have hlen : ((L.length : Int) == 0) = false := by rw [e0]; simp; omega
    have hlp : 0 < L.length := by rw [e0]; simp
    subst eA
    clear e0 hE
    rcases hcase with hv | ⟨hv, hr⟩ | ⟨hv, hr, hex⟩ | ⟨hv, hr, hex, heq⟩
    · skip
      go_enter Try.func17, Try.ntmps17
      go_wp2_with fail
      with_reducible refine (svps_v _ c L false _ h hL hv).mono ?_
      rintro e w1 ⟨rfl, hbb⟩
      have HB := Lib.hid hbb
      clear hbb
      go_wp2
      go_ret
      exact ⟨rfl, HB.out⟩
    · skip
      cases hex : p.ex
      · skip
        go_enter Try.func17, Try.ntmps17
        go_wp2_with fail
        with_reducible refine (svps_v _ c L true _ h hL hv).mono ?_
        rintro e w1 ⟨rfl, hbb⟩
        have HB := Lib.hid hbb
        try (obtain ⟨c0, c1, c2, c3, c4, c5, c6, c7, c8⟩ := hc.keep (hbb.block g hg))
        try (rw [hex] at c5)
        clear hbb
        go_wp2
        go_ret
        exact ⟨rfl, HB.out⟩
      · skip
        go_enter Try.func17, Try.ntmps17
        go_wp2_with fail
        with_reducible refine (svps_v _ c L true _ h hL hv).mono ?_
        rintro e w1 ⟨rfl, hbb⟩
        have HB := Lib.hid hbb
        try (obtain ⟨c0, c1, c2, c3, c4, c5, c6, c7, c8⟩ := hc.keep (hbb.block g hg))
        try (rw [hex] at c5)
        clear hbb
        go_wp2_with fail
        with_reducible refine (inRange_v _ _ _ false _ hr).mono ?_
        rintro e w2 ⟨rfl, rfl⟩
        go_wp2
        go_ret
        exact ⟨rfl, HB.out⟩
    · skip
      go_enter Try.func17, Try.ntmps17
      go_wp2_with fail
      with_reducible refine (svps_v _ c L true _ h hL hv).mono ?_
      rintro e w1 ⟨rfl, hbb⟩
      have HB := Lib.hid hbb
      try (obtain ⟨c0, c1, c2, c3, c4, c5, c6, c7, c8⟩ := hc.keep (hbb.block g hg))
      try (rw [hex] at c5)
      clear hbb
      go_wp2
      go_ret
      exact ⟨rfl, HB.out⟩
    · skip
      go_enter Try.func17, Try.ntmps17
      go_wp2_with fail
      with_reducible refine (svps_v _ c L true _ h hL hv).mono ?_
      rintro e w1 ⟨rfl, hbb⟩
      have HB := Lib.hid hbb
      try (obtain ⟨c0, c1, c2, c3, c4, c5, c6, c7, c8⟩ := hc.keep (hbb.block g hg))
      try (rw [hex] at c5)
      clear hbb
      go_wp2_with fail
      with_reducible refine (inRange_v _ _ _ true _ hr).mono ?_
      rintro e w2 ⟨rfl, rfl⟩
      go_wp2_with fail
      with_reducible refine (upright_p p _).mono ?_
      rintro e w3 ⟨rfl, rfl⟩
      go_wp2
      go_ret
      exact ⟨rfl, HB.out⟩
end Go.Proofs.Ytjdjahckdgbkbaa
end
