import Derived.Test.YtjdjahckdgbkbaaQ07
section
namespace Go.Proofs.Ytjdjahckdgbkbaa
open Go.RowKit
set_option linter.unusedVariables false
set_option maxHeartbeats 1000000
set_option maxRecDepth 100000 in
theorem PackRects_yes (A : Option Addr) (c : Nat) (L : List Pk) (u v : Int) (w : World) (h : PV w A L) (hcap : L.length ≤ c) (hL : L.length ≤ 1048576) (hv : vpsB L = true) (hr : rmB u v = true) (M : List Rc) (Z : Rc) (hM : parcM L ⟨0, 0, u, v⟩ = (M, Z)) :
    Calls Try.prog 29 #[.slice A L.length c, .int .i64 u, .int .i64 v] w fun e w' => (∃ g, e = .returned (.slice (some ⟨g, 0, none⟩) L.length L.length) ∧ w.heap.size ≤ g ∧ Blk4 w' g (setL L M)) ∧ Below w.heap.size w w' := by
  have HM := Lib.hid hM
  clear hM
  go_enter Try.func29, Try.ntmps29
  go_wp2_with fail
  with_reducible refine (vps_v _ c L true _ h hL hv).mono ?_
  rintro e w1 ⟨rfl, hbb⟩
  have HB := Lib.hid hbb
  clear hbb
  go_wp2_with fail
  with_reducible refine (validRoom_v _ _ true _ hr).mono ?_
  rintro e w2 ⟨rfl, rfl⟩
  go_wp2_with fail
  refine (packRects_v A c L ⟨0, 0, u, v⟩ _ (h.keep HB.out) hcap hv (rmB_ok hr) M Z HM.out).mono ?_
  rintro e w3 ⟨⟨g, rfl, hg, hk⟩, hbb⟩
  replace hg := Nat.le_trans HB.out.size hg
  replace HB := Lib.hid (bkeep2 HB.out hbb)
  have HK := Lib.hid hk
  clear hbb hk
  go_wp2
  go_ret
  exact ⟨⟨_, rfl, hg, HK.out⟩, HB.out⟩
set_option maxRecDepth 100000 in
theorem PackRects_no (A : Option Addr) (c : Nat) (L : List Pk) (u v : Int) (w : World) (h : PV w A L) (hcap : L.length ≤ c) (hL : L.length ≤ 1048576) (hn : vpsB L = false ∨ (vpsB L = true ∧ rmB u v = false)) :
    Calls Try.prog 29 #[.slice A L.length c, .int .i64 u, .int .i64 v] w fun e w' => e = .returned (.slice none 0 0) ∧ Below w.heap.size w w' := by
  rcases hn with hv | ⟨hv, hr⟩
  · go_enter Try.func29, Try.ntmps29
    go_wp2_with fail
    with_reducible refine (vps_v _ c L false _ h hL hv).mono ?_
    rintro e w1 ⟨rfl, hbb⟩
    have HB := Lib.hid hbb
    clear hbb
    go_wp2
    go_ret
    exact ⟨rfl, HB.out⟩
  · go_enter Try.func29, Try.ntmps29
    go_wp2_with fail
    with_reducible refine (vps_v _ c L true _ h hL hv).mono ?_
    rintro e w1 ⟨rfl, hbb⟩
    have HB := Lib.hid hbb
    clear hbb
    go_wp2_with fail
    with_reducible refine (validRoom_v _ _ false _ hr).mono ?_
    rintro e w2 ⟨rfl, rfl⟩
    go_wp2
    go_ret
    exact ⟨rfl, HB.out⟩
set_option maxRecDepth 100000 in
theorem sPackRects_yes (A : Option Addr) (c : Nat) (L : List Pk) (u v : Int) (w : World) (h : PV w A L) (hcap : L.length ≤ c) (hL : L.length ≤ 1048576) (hv : vpsB L = true) (hr : rmB u v = true) (M : List Rc) (Z : Rc) (hM : parcM L ⟨0, 0, u, v⟩ = (M, Z)) :
    Calls Try.prog 28 #[.slice A L.length c, .int .i64 u, .int .i64 v] w fun e w' => (∃ v, e = .returned v ∧ RV w' v (setL L M)) ∧ Below w.heap.size w w' := by
  have HM := Lib.hid hM
  clear hM
  go_enter Try.func28, Try.ntmps28
  go_wp2_with fail
  with_reducible refine (svps_v _ c L true _ h hL hv).mono ?_
  rintro e w1 ⟨rfl, hbb⟩
  have HB := Lib.hid hbb
  clear hbb
  go_wp2_with fail
  with_reducible refine (goodRoom_v _ _ true _ hr).mono ?_
  rintro e w2 ⟨rfl, rfl⟩
  go_wp2_with fail
  refine (packed_v A c L ⟨0, 0, u, v⟩ _ (h.keep HB.out) hcap hv (rmB_ok hr) M Z HM.out).mono ?_
  rintro e w3 ⟨⟨rv, rfl, hk⟩, hbb⟩
  replace HB := Lib.hid (bkeep2 HB.out hbb)
  have HK := Lib.hid hk
  clear hbb hk
  go_wp2
  go_ret
  exact ⟨⟨_, rfl, HK.out⟩, HB.out⟩
set_option maxRecDepth 100000 in
theorem sPackRects_no (A : Option Addr) (c : Nat) (L : List Pk) (u v : Int) (w : World) (h : PV w A L) (hcap : L.length ≤ c) (hL : L.length ≤ 1048576) (hn : vpsB L = false ∨ (vpsB L = true ∧ rmB u v = false)) :
    Calls Try.prog 28 #[.slice A L.length c, .int .i64 u, .int .i64 v] w fun e w' => e = .returned (.slice none 0 0) ∧ Below w.heap.size w w' := by
  rcases hn with hv | ⟨hv, hr⟩
  · go_enter Try.func28, Try.ntmps28
    go_wp2_with fail
    with_reducible refine (svps_v _ c L false _ h hL hv).mono ?_
    rintro e w1 ⟨rfl, hbb⟩
    have HB := Lib.hid hbb
    clear hbb
    go_wp2
    go_ret
    exact ⟨rfl, HB.out⟩
  · go_enter Try.func28, Try.ntmps28
    go_wp2_with fail
    with_reducible refine (svps_v _ c L true _ h hL hv).mono ?_
    rintro e w1 ⟨rfl, hbb⟩
    have HB := Lib.hid hbb
    clear hbb
    go_wp2_with fail
    with_reducible refine (goodRoom_v _ _ false _ hr).mono ?_
    rintro e w2 ⟨rfl, rfl⟩
    go_wp2
    go_ret
    exact ⟨rfl, HB.out⟩
end Go.Proofs.Ytjdjahckdgbkbaa
end
