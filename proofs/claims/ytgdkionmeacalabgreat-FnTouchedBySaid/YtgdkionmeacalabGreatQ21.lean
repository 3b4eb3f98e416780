import Derived.Test.YtgdkionmeacalabGreatQ20
import Derived.Deep.QuietTactic
import Derived.BigQuiet
section
namespace Go.Proofs.YtgdkionmeacalabGreat
open Go.RowKit
set_option linter.unusedVariables false
set_option linter.unusedSimpArgs false
set_option maxHeartbeats 4000000
theorem kid_no0 {R : List Nr} (h : TrOK (R.map Nr.n)) (i : Nat) : isKid R (i : Int) 0 = false := by
  rw [isKid_eq]
  unfold kidB
  cases hn : (R.map Nr.n)[0]? with
  | none => rfl
  | some n =>
    rcases h.up 0 n hn with ⟨_, e⟩ | ⟨e, _⟩
    · show (n.pa == (i : Int)) = false
      rw [e]; simp only [beq_eq_false_iff_ne, ne_eq]; omega
    · omega
theorem pks_big {L : List Nd} (h : TrOK L) (ks : List Nat) : ∀ p ∈ pksF L (szM L) ks, p.big := fun p hp => pk_bd h (fun k _ => szM_bd h k) p hp
theorem ces_w {L : List Nd} (h : TrOK L) {i : Nat} {n : Nd} (hn : L[i]? = some n) (h1 : n.ki = 1) : (∀ p ∈ cesF L (szM L) (kidD L i), smW p) ∧ spansW n.cs.length ((cesF L (szM L) (kidD L i)).map acM) ∧ spansW n.rs.length ((cesF L (szM L) (kidD L i)).map dnM) ∧ (cesF L (szM L) (kidD L i)).length ≤ 10 := by
  have hp := ce_bd h hn h1 (fun k _ => szM_bd h k)
  have hl := Nat.le_trans (cesF_len L (szM L) (kidD L i)) (Nat.le_trans (kidD_len L i) h.l10)
  refine ⟨fun p hm => by have := hp p hm; unfold smW; omega, ⟨by simpa using hl, fun s hs => ?_⟩, ⟨by simpa using hl, fun s hs => ?_⟩, hl⟩
  · obtain ⟨p, hm, rfl⟩ := List.mem_map.1 hs
    have := hp p hm
    refine ⟨p.co.toNat, p.mc.toNat, ?_, ?_, ?_, ?_, ?_, ?_⟩ <;> first | omega | (unfold acM; dsimp only; omega)
  · obtain ⟨p, hm, rfl⟩ := List.mem_map.1 hs
    have := hp p hm
    refine ⟨p.ro.toNat, p.mr.toNat, ?_, ?_, ?_, ?_, ?_, ?_⟩ <;> first | omega | (unfold dnM; dsimp only; omega)
end Go.Proofs.YtgdkionmeacalabGreat
end
section
namespace Go.Proofs.YtgdkionmeacalabGreat
open Go.RowKit
set_option linter.unusedVariables false
set_option linter.unusedSimpArgs false
set_option maxHeartbeats 4000000
attribute [local go_sem] growUpon_value growUpon_skip growUpon_enter
theorem new_fullW {w : World} {o : Obj} {cs : Array Value} {T : TypeId} (p : Nr) (ho : o = .cells cs T (0, 0)) (hs : cs.size = 34) : ((w.alloc o).setCells w.heap.size 0 (valsNr p)).heap[w.heap.size]? = some (.cells (valsNr p).toArray T (0, 0)) := by
  subst ho
  rw [heap_setCells (valsNr p) 0 _ _ (newS w _), wrAt_all (by rw [hs]; rfl)]
theorem ret_tup2 {a b c d : Int} (h1 : a = c) (h2 : b = d) : Ending.returned (.tuple #[.int .i64 a, .int .i64 b]) = .returned (.tuple #[.int .i64 c, .int .i64 d]) := by rw [h1, h2]
theorem pksF_all {L : List Nd} {g : Nat → Int × Int} {ks : List Nat} (hk : ∀ x ∈ ks, x < L.length) : (pksF L g ks).length = ks.length := by
  have := pksF_take_len (g := g) hk ks.length (Nat.le_refl _)
  rwa [List.take_length] at this
theorem cesF_all {L : List Nd} {g : Nat → Int × Int} {ks : List Nat} (hk : ∀ x ∈ ks, x < L.length) : (cesF L g ks).length = ks.length := by
  have := cesF_take_len (g := g) hk ks.length (Nat.le_refl _)
  rwa [List.take_length] at this
theorem askN_own {L : List Nd} {f : Nat → Int × Int} {i : Nat} {n : Nd} (h : n.ke = true ∨ kidD L i = [] ∨ n.ki = 2) : askN L f i n = (n.ww, n.hh) := by unfold askN; rw [if_pos h]
theorem askN_pk {L : List Nd} {f : Nat → Int × Int} {i : Nat} {n : Nd} {ks : List Nat} (hks : kidD L i = ks) (h1 : n.ke = false) (h2 : ks ≠ []) (h3 : n.ki = 0) : askN L f i n = reqM (pksF L f ks) := by
  subst hks
  unfold askN
  rw [if_neg (by simp [h1, h2, h3]), if_pos h3]
theorem askN_gr {L : List Nd} {f : Nat → Int × Int} {i : Nat} {n : Nd} {ks : List Nat} (hks : kidD L i = ks) (h1 : n.ke = false) (h2 : ks ≠ []) (h3 : n.ki = 1) : askN L f i n = gridM n.cs n.rs (cesF L f ks) := by
  subst hks
  unfold askN
  rw [if_neg (by simp [h1, h2, h3]), if_neg (by omega)]
set_option maxRecDepth 100000 in
theorem sizeOf_v (A : Option Addr) (c : Nat) (R : List Nr) (hT : TrOK (R.map Nr.n)) : ∀ (f i : Nat) (w : World), R.length ≤ f + i → i < R.length → NrV w A R → RdR w R →
    Calls Tryz.prog 27 #[.agg #[.slice A R.length c], .int .i64 (i : Int)] w fun e w' => e = .returned (.tuple #[.int .i64 (szM (R.map Nr.n) i).1, .int .i64 (szM (R.map Nr.n) i).2]) ∧ Below w.heap.size w w' := by
  intro f
  induction f with
  | zero => intro i w h1 h2; omega
  | succ f ih =>
  intro i w hf hi h hr
  have hget : R[i]? = some R[i] := List.getElem?_eq_getElem hi
  have hmg : (R.map Nr.n)[i]? = some R[i].n := by rw [List.getElem?_map, hget]; rfl
  have hsz0 := szM_eq hT hmg
  have hr1 := hr _ (List.getElem_mem hi)
  have hkis := (hT.sz i _ hmg).2.2
  generalize hp0 : R[i] = p at *
  obtain ⟨b, off, rfl, hb, hc⟩ := h.cells (by omega)
  have hcp := hc i p hget
  have hL10 : R.length ≤ 10 := by have := hT.l10; simpa using this
  have hL1 : 1 ≤ R.length := by omega
  have hdi : (i : Int) < (R.length : Int) := by omega
  have hB0 : Below w.heap.size w (w.alloc (.cells #[.slice (some ⟨b, off, none⟩) R.length c] 25 (0, 0))) := balloc (Below.refl _ _)
  have HX := Lib.hid (newS w (.cells #[.slice (some ⟨b, off, none⟩) R.length c] 25 (0, 0)))
  have HB := Lib.hid hB0
  have HNR := Lib.hid (h.keep hB0)
  have HRD := Lib.hid (hr.keep hB0)
  have HR1 := Lib.hid (hr1.keep hB0)
  have HC := Lib.hid (rangeB hcp (hB0.block b hb))
  have HSZ := Lib.hid hsz0
  have HMG := Lib.hid hmg
  have HKI := Lib.hid hkis
  have HGI := Lib.hid hget
  have HIH := Lib.hid (show ∀ k ∈ kidD (R.map Nr.n) i, ∀ W, Below w.heap.size w W → Calls Tryz.prog 27 #[.agg #[.slice (some ⟨b, off, none⟩) R.length c], .int .i64 (k : Int)] W fun e W' => e = .returned (.tuple #[.int .i64 (szM (R.map Nr.n) k).1, .int .i64 (szM (R.map Nr.n) k).2]) ∧ Below W.heap.size W W' from fun k hk W hW => by
    have := kid_gt hT hk
    have hkl := kidD_lt hk
    rw [List.length_map] at hkl
    exact ih k W (by omega) hkl (h.keep hW) (hr.keep hW))
  have x0 := cellS HX.out 0
  have lx := ltS HX.out
  clear h hr hr1 hcp hsz0 hc hget hmg ih hp0 hkis hB0
  go_enter Tryz.func27, Tryz.ntmps27
  go_upto_region 1 with fail
  refine wp_genGG (fun W => W = w.alloc (.cells #[.slice (some ⟨b, off, none⟩) R.length c] 25 (0, 0))) rfl (fun W1 e1 => ?_)
  rw [← e1] at x0 lx
  replace HX := Lib.hid (e1 ▸ HX.out)
  replace HB := Lib.hid (e1 ▸ HB.out)
  replace HNR := Lib.hid (e1 ▸ HNR.out)
  replace HRD := Lib.hid (e1 ▸ HRD.out)
  replace HR1 := Lib.hid (e1 ▸ HR1.out)
  replace HC := Lib.hid (e1 ▸ HC.out)
  clear e1
  go_upto_region 2 with (first | (refine ldN _ p b (off + i * 34) rfl rfl rfl HC.out ?_) | (refine stN (.tmp 6) (.tmp 12) p W1.heap.size 0 rfl rfl rfl rfl (newS _ _) (by show (0 + 34 : Nat) ≤ 34; omega) ?_))
  refine wp_genGG (fun W => W.heap[W1.heap.size]? = some (.cells (valsNr p).toArray 38 (0, 0)) ∧ Below W1.heap.size W1 W) ⟨new_fullW p rfl rfl, below_setCells (Nat.le_refl _) _ _ _ (balloc (Below.refl _ _))⟩ (fun W2 h0 => ?_)
  obtain ⟨hn, hb2⟩ := h0
  have HN := Lib.hid hn
  have ln := ltS hn
  clear hn x0 lx HC hdi
  replace HX := Lib.hid ((hb2.block _ (Array.getElem?_eq_some_iff.1 HX.out).1).trans HX.out)
  replace HNR := Lib.hid (HNR.out.keep hb2)
  replace HRD := Lib.hid (HRD.out.keep hb2)
  replace HR1 := Lib.hid (HR1.out.keep hb2)
  replace HB := Lib.hid (bkeep2 HB.out hb2)
  clear hb2
  have x0 := cellS HX.out 0
  have lx := ltS HX.out
  go_wp2_with fail
  with_reducible refine (skidsOf_v (some ⟨b, off, none⟩) c R (i : Int) _ HNR.out hL1 (by omega) (kid_no0 hT i)).mono ?_
  rintro e W3 ⟨⟨kv, rfl, hkv⟩, hb3⟩
  rw [kidsM_eq] at hkv
  obtain ⟨kA, kc, hkv, hkn, -⟩ := hkv
  rw [List.length_map] at hkv
  subst hkv
  have ln3 := Nat.lt_of_lt_of_le ln hb3.size
  clear x0 lx ln
  replace HX := Lib.hid ((hb3.block _ (Array.getElem?_eq_some_iff.1 HX.out).1).trans HX.out)
  replace HN := Lib.hid ((hb3.block _ (Array.getElem?_eq_some_iff.1 HN.out).1).trans HN.out)
  replace HNR := Lib.hid (HNR.out.keep hb3)
  replace HRD := Lib.hid (HRD.out.keep hb3)
  replace HR1 := Lib.hid (HR1.out.keep hb3)
  replace HB := Lib.hid (bkeep2 HB.out hb3)
  clear hb3
  have HKN := Lib.hid hkn
  clear hkn
  have hkl10 : (kidD (R.map Nr.n) i).length ≤ 10 := Nat.le_trans (kidD_len _ _) (by simpa using hL10)
  have hkl : ∀ k ∈ kidD (R.map Nr.n) i, k < (R.map Nr.n).length := fun k hk => kidD_lt hk
  have HCW := Lib.hid (show p.n.ki = 1 → _ from fun h1 => ces_w hT HMG.out h1)
  have HLI := Lib.hid (show p.n.ki = 1 → _ from fun h1 => hT.li i p.n HMG.out h1)
  have HPB := Lib.hid (pks_big hT (kidD (R.map Nr.n) i))
  obtain ⟨ks, hks⟩ : ∃ ks, kidD (R.map Nr.n) i = ks := ⟨_, rfl⟩
  rw [hks] at HKN hkl10 hkl HIH HCW HPB ⊢
  have HPL := Lib.hid (pksF_all (g := szM (R.map Nr.n)) hkl)
  have HCL := Lib.hid (cesF_all (g := szM (R.map Nr.n)) hkl)
  have HKL := Lib.hid hkl
  have HKS := Lib.hid hks
  clear hkl hks
  have x0 := cellS HX.out 0
  have lx := ltS HX.out
  have y1 : W3.cell? ⟨W1.heap.size, 1, none⟩ = some (.int .i64 p.n.ww) := cellS HN.out 1
  have y2 : W3.cell? ⟨W1.heap.size, 2, none⟩ = some (.int .i64 p.n.hh) := cellS HN.out 2
  have y3 : W3.cell? ⟨W1.heap.size, 3, none⟩ = some (.bool p.n.ke) := cellS HN.out 3
  have y4 : W3.cell? ⟨W1.heap.size, 4, none⟩ = some (.int .i64 p.n.ki) := cellS HN.out 4
  have hC : (p.n.ke = true) ∨ (p.n.ke = false ∧ ks = []) ∨ (p.n.ke = false ∧ ks ≠ [] ∧ p.n.ki = 2) ∨ (p.n.ke = false ∧ ks ≠ [] ∧ p.n.ki ≠ 2) := by
    cases p.n.ke <;> by_cases h1 : ks = [] <;> by_cases h2 : p.n.ki = 2 <;> simp [h1, h2]
  rcases hC with hke | ⟨hke, hnil⟩ | ⟨hke, hnil, hk2⟩ | ⟨hke, hnil, hk2⟩
  · rw [hke] at y3
    have HKE := Lib.hid hke
    clear hke
    have hz : szM (R.map Nr.n) i = (p.n.ww, p.n.hh) := HSZ.out.trans (askN_own (.inl HKE.out))
    have HZ := Lib.hid hz
    clear hz
    go_wp2_with fail
    go_quiet (fail)
    go_wp2
    go_ret2
    exact ⟨ret_tup2 (by rw [HZ.out]) (by rw [HZ.out]), belowN' HB.out _⟩
  · rw [hke] at y3
    have hl0 : ((ks.length : Int) == 0) = true := by simp [hnil]
    have HNI := Lib.hid hnil
    clear hke hnil
    have hz : szM (R.map Nr.n) i = (p.n.ww, p.n.hh) := HSZ.out.trans (askN_own (.inr (.inl (HKS.out.trans HNI.out))))
    have HZ := Lib.hid hz
    clear hz
    go_wp2_with fail
    go_quiet (fail)
    go_wp2
    go_ret2
    exact ⟨ret_tup2 (by rw [HZ.out]) (by rw [HZ.out]), belowN' HB.out _⟩
  · rw [hke] at y3
    have hl0 : ((ks.length : Int) == 0) = false := by have := List.length_pos_iff.2 hnil; rw [beq_eq_false_iff_ne]; omega
    have hk22 : (p.n.ki == 2) = true := by simp [hk2]
    have HK2 := Lib.hid hk2
    clear hke hnil hk2
    have hz : szM (R.map Nr.n) i = (p.n.ww, p.n.hh) := HSZ.out.trans (askN_own (.inr (.inr HK2.out)))
    have HZ := Lib.hid hz
    clear hz
    go_wp2_with fail
    go_quiet (fail)
    go_wp2
    go_ret2
    exact ⟨ret_tup2 (by rw [HZ.out]) (by rw [HZ.out]), belowN' HB.out _⟩
  · rw [hke] at y3
    have hl0 : ((ks.length : Int) == 0) = false := by have := List.length_pos_iff.2 hnil; rw [beq_eq_false_iff_ne]; omega
    have hk22 : (p.n.ki == 2) = false := by simp [hk2]
    by_cases hk0 : p.n.ki = 0
    · have hk00 : (p.n.ki == 0) = true := by simp [hk0]
      have HZ := Lib.hid (HSZ.out.trans (askN_pk HKS.out hke hnil hk0))
      clear hke hnil hk2 hk0
      go_wp2_with fail
      with_reducible refine (packsOf_v (some ⟨b, off, none⟩) c R ks kA kc ks.length (szM (R.map Nr.n)) _ HNR.out hL1 (by omega) HKN.out rfl (by omega) (fun k hk => by have := HKL.out k hk; rwa [List.length_map] at this) (fun k hk W hW => HIH.out k hk W (bkeep2 HB.out hW))).mono ?_
      rintro e W4 ⟨⟨A', c', rfl, hpv⟩, hb4⟩
      have HRQ := Lib.hid (show Calls Tryz.prog 54 #[.slice A' ks.length c'] W4 _ from HPL.out ▸ request_w A' c' _ W4 hpv HPB.out (by rw [HPL.out]; omega))
      clear hpv x0 lx y1 y2 y3 y4
      replace HB := Lib.hid (bkeep2 HB.out hb4)
      clear hb4
      go_wp2_with fail
      with_reducible refine (HRQ.out).mono ?_
      rintro e W5 ⟨rfl, hb5⟩
      replace HB := Lib.hid (bkeep2 HB.out hb5)
      clear hb5
      go_wp2
      go_ret2
      exact ⟨ret_tup2 (by rw [HZ.out]) (by rw [HZ.out]), HB.out⟩
    · have hk00 : (p.n.ki == 0) = false := by simp [hk0]
      have hk1 : p.n.ki = 1 := by have := HKI.out; omega
      have HZ := Lib.hid (HSZ.out.trans (askN_gr HKS.out hke hnil hk1))
      have HC1 := Lib.hid (HCW.out hk1)
      have HL1 := Lib.hid (HLI.out hk1)
      clear hke hnil hk2 hk0 hk1
      go_wp2_with fail
      with_reducible refine (gridOf_v (some ⟨b, off, none⟩) c R i p ks kA kc ks.length (szM (R.map Nr.n)) _ HNR.out HGI.out (by omega) HKN.out rfl (by omega) (fun k hk => by have := HKL.out k hk; rwa [List.length_map] at this) (fun k hk W hW => HIH.out k hk W (bkeep2 HB.out hW))).mono ?_
      rintro e W4 ⟨⟨A', c', rfl, hcv⟩, hb4⟩
      have HRQ := Lib.hid (show Calls Tryz.prog 56 #[.agg (gridAg p (.slice A' ks.length c')).toArray] W4 _ from HCL.out ▸ sgridRequest_w p.ca p.cc p.n.cs p.ra p.rc p.n.rs A' c' _ W4 (HR1.out.keep hb4).c (HR1.out.keep hb4).r hcv HL1.out.1 HL1.out.2 HC1.out.2.2.2 HC1.out.1 HC1.out.2.1 HC1.out.2.2.1 HR1.out.cl HR1.out.rl)
      clear hcv x0 lx y1 y2 y3 y4
      replace HB := Lib.hid (bkeep2 HB.out hb4)
      clear hb4
      go_wp2_with fail
      with_reducible refine (HRQ.out).mono ?_
      rintro e W5 ⟨rfl, hb5⟩
      replace HB := Lib.hid (bkeep2 HB.out hb5)
      clear hb5
      go_wp2
      go_ret2
      exact ⟨ret_tup2 (by rw [HZ.out]; rfl) (by rw [HZ.out]; rfl), HB.out⟩
end Go.Proofs.YtgdkionmeacalabGreat
end
