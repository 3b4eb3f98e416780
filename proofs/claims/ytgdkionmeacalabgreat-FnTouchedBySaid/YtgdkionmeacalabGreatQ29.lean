import Derived.Test.YtgdkionmeacalabGreatQ28
section
namespace Go.Proofs.YtgdkionmeacalabGreat
open Go Go.RowKit
set_option linter.unusedVariables false
set_option linter.unusedSimpArgs false
set_option maxHeartbeats 4000000
attribute [local go_sem] growUpon_value growUpon_skip growUpon_enter
/-! What a wish touches lies on the way up, without a gap. -/
theorem neW_self (a : Int × Int) : neW a a = false := by simp [neW]
theorem neW_no {a b : Int × Int} (h : neW a b = false) : a = b := by
  obtain ⟨a1, a2⟩ := a
  obtain ⟨b1, b2⟩ := b
  simp only [neW, Bool.not_eq_false', Bool.and_eq_true, decide_eq_true_eq] at h
  rw [h.1, h.2]
theorem kidD_ask {L : List Nd} {j : Nat} {n0 : Nd} {u v : Int} (hj : L[j]? = some n0) (i : Nat) : kidD (askM L j u v) i = kidD L i := by
  unfold kidD
  rw [askM_len]
  congr 1
  funext k
  unfold kidB
  rw [askM_get hj]
  by_cases e : k = j
  · rw [if_pos e, e, hj]; rfl
  · rw [if_neg e]
theorem pksF_ask {L : List Nd} {j : Nat} {n0 : Nd} {u v : Int} (hj : L[j]? = some n0) (f : Nat → Int × Int) (ks : List Nat) : pksF (askM L j u v) f ks = pksF L f ks := filterMap_congr' fun k _ => by
  rw [askM_get hj]
  split
  · rename_i e; subst e; rw [hj]; rfl
  · rfl
theorem cesF_ask {L : List Nd} {j : Nat} {n0 : Nd} {u v : Int} (hj : L[j]? = some n0) (f : Nat → Int × Int) (ks : List Nat) : cesF (askM L j u v) f ks = cesF L f ks := filterMap_congr' fun k _ => by
  rw [askM_get hj]
  split
  · rename_i e; subst e; rw [hj]; rfl
  · rfl
theorem askN_ask {L : List Nd} {j : Nat} {n0 : Nd} {u v : Int} (hj : L[j]? = some n0) (f : Nat → Int × Int) (i : Nat) (n : Nd) : askN (askM L j u v) f i n = askN L f i n := by
  unfold askN
  rw [kidD_ask hj, pksF_ask hj, cesF_ask hj]
/-- a node whose wish changes, and that did not wish itself, has a kid whose wish changes, and takes what its kids ask -/
theorem chg_up {L : List Nd} {j : Nat} {u v : Int} (ht : treeB L = true) (ht2 : treeB (askM L j u v) = true) {n0 : Nd} (hj : L[j]? = some n0) {k : Nat} {n : Nd} (hk : L[k]? = some n) (hne : k ≠ j) (hc : neW (szM L k) (szM (askM L j u v) k) = true) :
    n.ke = false ∧ n.ki ≠ 2 ∧ ∃ c, c ∈ kidD L k ∧ neW (szM L c) (szM (askM L j u v) c) = true := by
  have e1 := szM_eq (trOK_of ht) hk
  have e2 := szM_eq (trOK_of ht2) (i := k) (n := n) (by rw [askM_get hj, if_neg hne]; exact hk)
  rw [askN_ask hj] at e2
  have hno : askN L (szM L) k n = askN L (szM (askM L j u v)) k n → False := fun e => by
    rw [e1, e2, e, neW_self] at hc
    cases hc
  refine ⟨?_, fun h => hno (by rw [askN_own (.inr (.inr h)), askN_own (.inr (.inr h))]), ?_⟩
  · cases h : n.ke
    · rfl
    · exact (hno (by rw [askN_own (.inl h), askN_own (.inl h)])).elim
  · refine Classical.byContradiction fun h => hno (askN_congr fun c hcm => neW_no ?_)
    cases hq : neW (szM L c) (szM (askM L j u v) c)
    · rfl
    · exact absurd ⟨c, hcm, hq⟩ h
theorem way_pw {L : List Nd} : ∀ {xs : List Int} {p : Int}, IsUp L p xs → xs.Pairwise (· > ·) ∧ ∀ x ∈ xs, x ≤ p
  | [], p, _ => ⟨List.Pairwise.nil, fun x hx => by cases hx⟩
  | x :: r, p, h => by
    unfold IsUp at h
    obtain ⟨rfl, h0, n, hn, h1, h2, hr⟩ := h
    obtain ⟨a, b⟩ := way_pw hr
    refine ⟨List.pairwise_cons.2 ⟨fun y hy => by have := b y hy; omega, a⟩, fun y hy => ?_⟩
    rcases List.mem_cons.1 hy with rfl | hy
    · omega
    · have := b y hy; omega
theorem way_head {L : List Nd} : ∀ {xs : List Int} {p : Int}, IsUp L p xs → 0 ≤ p → xs[0]? = some p
  | [], p, h, h0 => by unfold IsUp at h; omega
  | x :: r, p, h, _ => by unfold IsUp at h; simp [h.1]
theorem way_next {L : List Nd} : ∀ {xs : List Int} {p : Int}, IsUp L p xs → ∀ (i c : Nat) (n : Nd), xs[i]? = some (c : Int) → L[c]? = some n → 0 ≤ n.pa → xs[i + 1]? = some n.pa
  | [], p, _, i, c, n, hi, _, _ => by simp at hi
  | x :: r, p, h, i, c, n, hi, hc, h0 => by
    unfold IsUp at h
    obtain ⟨rfl, h0', n', hn, h1, h2, hr⟩ := h
    rcases i with _ | i
    · have e : x = (c : Int) := by simpa using hi
      subst e
      have e2 : L[c]? = some n' := by simpa using hn
      rw [hc] at e2
      obtain rfl := Option.some.inj e2
      simpa using way_head hr h0
    · have := way_next hr i c n (by simpa using hi) hc h0
      simpa using this
theorem way_inj {xs : List Int} (h : xs.Pairwise (· > ·)) {i m : Nat} {a : Int} (hi : xs[i]? = some a) (hm : xs[m]? = some a) : i = m := by
  obtain ⟨li, ei⟩ := List.getElem?_eq_some_iff.1 hi
  obtain ⟨lm, em⟩ := List.getElem?_eq_some_iff.1 hm
  have hp := List.pairwise_iff_getElem.1 h
  rcases Nat.lt_trichotomy i m with h1 | h1 | h1
  · have := hp i m li lm h1; rw [ei, em] at this; omega
  · exact h1
  · have := hp m i lm li h1; rw [ei, em] at this; omega
theorem way_lt {xs : List Int} (h : xs.Pairwise (· > ·)) {i m : Nat} {a b : Int} (hi : xs[i]? = some a) (hm : xs[m]? = some b) (hl : i < m) : b < a := by
  obtain ⟨li, ei⟩ := List.getElem?_eq_some_iff.1 hi
  obtain ⟨lm, em⟩ := List.getElem?_eq_some_iff.1 hm
  have := List.pairwise_iff_getElem.1 h i m li lm hl
  rw [ei, em] at this; omega
theorem kid_pa {L : List Nd} {i c : Nat} (h : c ∈ kidD L i) : ∃ n, L[c]? = some n ∧ n.pa = (i : Int) := ⟨_, List.getElem?_eq_getElem (kidD_lt h), kidD_pa h (List.getElem?_eq_getElem (kidD_lt h))⟩
theorem chg_way {L : List Nd} {j : Nat} {u v : Int} {xs : List Int} (ht : treeB L = true) (ht2 : treeB (askM L j u v) = true) {n0 : Nd} (hj : L[j]? = some n0) (hup : IsUp L (j : Int) xs) : ∀ (d k : Nat), L.length - k ≤ d → k < L.length → neW (szM L k) (szM (askM L j u v) k) = true → ∃ i : Nat, xs[i]? = some (k : Int)
  | 0, k, hd, hk, _ => by omega
  | d + 1, k, hd, hk, hc => by
    by_cases e : k = j
    · subst e; exact ⟨0, way_head hup (by omega)⟩
    · obtain ⟨-, -, c, hcm, hcc⟩ := chg_up ht ht2 hj (List.getElem?_eq_getElem hk) e hc
      have h1 := kid_gt (trOK_of ht) hcm
      obtain ⟨i, hi⟩ := chg_way ht ht2 hj hup d c (by omega) (kidD_lt hcm) hcc
      obtain ⟨n, hn, hp⟩ := kid_pa hcm
      exact ⟨i + 1, by have := way_next hup i c n hi hn (by omega); rw [hp] at this; exact this⟩
theorem idsM_mem {f : Nat → Bool} {n : Nat} {x : Int} : x ∈ idsM f n ↔ ∃ k : Nat, k < n ∧ f k = true ∧ x = (k : Int) := by
  unfold idsM idsN
  rw [List.mem_map]
  constructor
  · rintro ⟨k, hk, rfl⟩
    obtain ⟨h1, h2⟩ := List.mem_filter.1 hk
    exact ⟨k, List.mem_range.1 h1, h2, rfl⟩
  · rintro ⟨k, h1, h2, rfl⟩
    exact ⟨k, List.mem_filter.2 ⟨List.mem_range.2 h1, h2⟩, rfl⟩
theorem idsM_pw (f : Nat → Bool) (n : Nat) : (idsM f n).Pairwise (· < ·) := by
  unfold idsM idsN
  rw [List.pairwise_map]
  exact (List.pairwise_lt_range.filter f).imp (fun h => by omega)
theorem idsM_asc {f : Nat → Bool} {n m : Nat} {a b : Int} (h1 : (idsM f n)[m]? = some a) (h2 : (idsM f n)[m + 1]? = some b) : a < b := by
  obtain ⟨l1, e1⟩ := List.getElem?_eq_some_iff.1 h1
  obtain ⟨l2, e2⟩ := List.getElem?_eq_some_iff.1 h2
  have := List.pairwise_iff_getElem.1 (idsM_pw f n) m (m + 1) l1 l2 (by omega)
  rw [e1, e2] at this; exact this
/-- what is touched lies on the way up -/
theorem tch_way {L : List Nd} {j : Nat} {u v : Int} {xs : List Int} (ht : treeB L = true) (ht2 : treeB (askM L j u v) = true) {n0 : Nd} (hj : L[j]? = some n0) (hup : IsUp L (j : Int) xs) {x : Int} (hx : x ∈ tchM L j u v) : x ∈ xs := by
  obtain ⟨k, hk, hc, rfl⟩ := idsM_mem.1 hx
  obtain ⟨i, hi⟩ := chg_way ht ht2 hj hup L.length k (by omega) hk hc
  exact List.mem_of_getElem? hi
/-- and so is the node ahead of it on the way, and it does not keep its size -/
theorem tch_gap {L : List Nd} {j : Nat} {u v : Int} {xs : List Int} (ht : treeB L = true) (ht2 : treeB (askM L j u v) = true) {n0 : Nd} (hj : L[j]? = some n0) (hup : IsUp L (j : Int) xs) {m : Nat} {a : Int} (ha : xs[m + 1]? = some a) (hx : a ∈ tchM L j u v) :
    ∃ (k : Nat) (n : Nd) (b : Int), a = (k : Int) ∧ L[k]? = some n ∧ n.ke = false ∧ n.ki ≠ 2 ∧ xs[m]? = some b ∧ b ∈ tchM L j u v := by
  obtain ⟨k, hk, hc, rfl⟩ := idsM_mem.1 hx
  have hpw := (way_pw hup).1
  have hlt := way_lt hpw (way_head hup (by omega)) ha (by omega)
  obtain ⟨h1, h2, c, hcm, hcc⟩ := chg_up ht ht2 hj (List.getElem?_eq_getElem hk) (by omega) hc
  obtain ⟨i, hi⟩ := chg_way ht ht2 hj hup L.length c (by omega) (kidD_lt hcm) hcc
  obtain ⟨n, hn, hp⟩ := kid_pa hcm
  have h3 := way_next hup i c n hi hn (by omega)
  rw [hp] at h3
  have h4 := way_inj hpw h3 ha
  obtain rfl : i = m := by omega
  exact ⟨k, _, _, rfl, List.getElem?_eq_getElem hk, h1, h2, hi, idsM_mem.2 ⟨c, kidD_lt hcm, hcc, rfl⟩⟩
set_option maxRecDepth 100000 in
theorem isIn_v (v : Value) (x : Int) (L : List Int) (b : Bool) (w : World) (h : NR w v L) (hL : L.length ≤ 1048576) (hb : decide (x ∈ L) = b) :
    Calls Tryz.prog 14 #[v, .int .i64 x] w fun e w' => e = .returned (.bool b) ∧ Below w.heap.size w w' := by
  obtain ⟨A, c, rfl, h⟩ := h
  have HBB := Lib.hid hb
  clear hb
  go_enter Tryz.func14, Tryz.ntmps14
  go_wp2_with fail
  go_loopw [5] (fun i wr => ∃ k : Nat, k ≤ L.length ∧ i = .int .i64 k ∧ x ∉ L.take k ∧ Below w.heap.size w wr) (fun i _ => L.length - (intOf i).toNat)
  case atStart => exact ⟨0, by omega, rfl, by simp, Below.refl _ _⟩
  case round =>
    obtain ⟨k, hk, rfl, hno, hB⟩ := hrel
    by_cases hlt : k < L.length
    · have hd : decide ((k : Int) < (L.length : Int)) = true := by simpa using hlt
      obtain ⟨ad, off, rfl, hbl, hp⟩ := (h.keep hB).cells (by omega)
      have hget : L[k]? = some L[k] := List.getElem?_eq_getElem hlt
      have c0 := hp k _ hget
      have htk : L.take (k + 1) = L.take k ++ [L[k]] := by rw [List.take_add_one, hget]; rfl
      have hmem : L[k] ∈ L := List.getElem_mem hlt
      generalize L[k] = y at *
      have HB := Lib.hid hB
      have HNO := Lib.hid hno
      have HTK := Lib.hid htk
      have HME := Lib.hid hmem
      clear hget hp hB hno htk hmem
      by_cases e : y = x
      · have d1 : (y == x) = true := by simp [e]
        obtain rfl : b = true := by rw [← HBB.out, decide_eq_true (by rw [← e]; exact HME.out)]
        clear e
        go_wp2
        go_ret
        exact ⟨rfl, HB.out⟩
      · have d1 : (y == x) = false := by simp [e]
        have HE := Lib.hid e
        clear e
        go_wp2
        go_roundw
        case rel => exact ⟨k + 1, by omega, by go_num, by
          rw [HTK.out, List.mem_append]
          rintro (q | q)
          · exact HNO.out q
          · exact HE.out (List.mem_singleton.1 q).symm, HB.out⟩
        case measure => simp [intOf]; omega
    · have hd : decide ((k : Int) < (L.length : Int)) = false := decide_eq_false (by omega)
      rw [List.take_of_length_le (by omega)] at hno
      obtain rfl : b = false := by rw [← HBB.out, decide_eq_false hno]
      have HB := Lib.hid hB
      clear hB hno
      go_wp2
      go_ret
      exact ⟨rfl, HB.out⟩
set_option maxRecDepth 100000 in
theorem ascends_v (v : Value) (L : List Int) (w : World) (h : NR w v L) (hL : L.length ≤ 1048576) (ha : ∀ (m : Nat) (a b : Int), L[m]? = some a → L[m + 1]? = some b → a < b) :
    Calls Tryz.prog 15 #[v] w fun e w' => e = .returned (.bool true) ∧ Below w.heap.size w w' := by
  obtain ⟨A, c, rfl, h⟩ := h
  have HAS := Lib.hid ha
  clear ha
  go_enter Tryz.func15, Tryz.ntmps15
  go_wp2_with fail
  go_loopw [3] (fun i wr => ∃ k : Nat, i = .int .i64 ((k + 1 : Nat) : Int) ∧ Below w.heap.size w wr) (fun i _ => L.length - (intOf i).toNat)
  case atStart => exact ⟨0, rfl, Below.refl _ _⟩
  case round =>
    obtain ⟨k, rfl, hB⟩ := hrel
    have HB := Lib.hid hB
    by_cases hlt : k + 1 < L.length
    · have hd : decide ((k : Int) + 1 < (L.length : Int)) = true := by simp; omega
      have hd2 : decide (((k + 1 : Nat) : Int) < (L.length : Int)) = true := by simp; omega
      obtain ⟨b, off, rfl, hbl, hcl⟩ := (h.keep hB).cells (by omega)
      obtain ⟨x, hx⟩ : ∃ x, L[k]? = some x := ⟨_, List.getElem?_eq_getElem (by omega)⟩
      obtain ⟨y, hy⟩ : ∃ y, L[k + 1]? = some y := ⟨_, List.getElem?_eq_getElem hlt⟩
      have y0 := hcl k _ hx
      have y1 := hcl (k + 1) _ hy
      have hxy := HAS.out k x y hx hy
      have hkl : (k : Int) < (L.length : Int) := by omega
      have hkl1 : (k : Int) + 1 < (L.length : Int) := by omega
      have hk0 : (0 : Int) ≤ (k : Int) + 1 := by omega
      have wk : IntKind.i64.wrap (k : Int) = (k : Int) := IntWalk.i64_in _ (by omega)
      have hle : decide (y ≤ x) = false := decide_eq_false (by omega)
      clear hcl hx hy hB hxy
      go_wp2_with fail
      refine wp_region_grow 10 0 (· < 10) (by kernel_rfl) (by kernel_rfl) rfl ?_
      iterate 10 (refine wpG_step (fun K hK => ?_); first | (refine grow_skip rfl ?_; go_simp; refine hK _ ?_; clear hK K) | (apply Exists.intro; refine ⟨.inl ⟨rfl, fun w' hw' => ?_⟩, ?_⟩; (focus ((obtain ⟨hc, hf⟩ := bcell hw'.out); (have hcS := bcellS hw'.out); go_simp <;> first | rfl | fail)); (go_simp; refine hK _ ?_; clear hK K)))
      refine wpG_nil ?_
      refine wpK_tail (by kernel_rfl) (fun w5 hg5 => ?_)
      have hb5 := bdrewn hg5.out
      refine wpAny_end (by kernel_rfl) ?_
      refine NoPan.thn ?_
      clear hg5
      replace HB := Lib.hid (HB.out.trans (hb5.mono HB.out.size))
      clear hb5 y0 y1
      go_wp2
      go_roundw
      case rel => exact ⟨k + 1, by go_num, HB.out⟩
      case measure => simp [intOf]; omega
    · have hd : decide ((k : Int) + 1 < (L.length : Int)) = false := decide_eq_false (by omega)
      have hd2 : decide (((k + 1 : Nat) : Int) < (L.length : Int)) = false := decide_eq_false (by omega)
      clear hB
      go_wp2
      go_ret
      exact ⟨rfl, HB.out⟩
end Go.Proofs.YtgdkionmeacalabGreat
end
