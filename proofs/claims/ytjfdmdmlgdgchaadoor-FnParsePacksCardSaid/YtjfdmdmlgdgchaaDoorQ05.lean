import Derived.Test.YtjfdmdmlgdgchaaDoorQ04
import Derived.OwnWalk
import Derived.Lib.Join
import Derived.Lib.ItoaNum
import Derived.Deep.DeepCutAuto
section
namespace Go.Proofs.YtjfdmdmlgdgchaaDoor
open Go.RowKit
set_option linter.unusedVariables false
set_option linter.unusedSimpArgs false
set_option maxHeartbeats 1000000
attribute [local go_sem] growUpon_value growUpon_skip growUpon_enter
attribute [local go_sem] givesUpon_value givesUpon_skip givesUpon_enter
/-! Lists of words. -/
def tvals (L : List (List UInt8)) : List Value := L.map tx
theorem tvals_len (L : List (List UInt8)) : (tvals L).length = L.length := by simp [tvals]
theorem tvals_app (L M : List (List UInt8)) : tvals L ++ tvals M = tvals (L ++ M) := by simp [tvals]
theorem tvals_one (L : List (List UInt8)) : ∀ v ∈ tvals L, v.oneCell' = true := by
  intro v hv
  obtain ⟨x, _, rfl⟩ := List.mem_map.1 hv
  rfl
/-- words that are there -/
def SLs (w : World) (b off : Nat) (L : List (List UInt8)) : Prop := b < w.heap.size ∧ ∀ (i : Nat) (x : List UInt8), L[i]? = some x → w.cell? ⟨b, off + i, none⟩ = some (tx x)
theorem SLs.keep {w w' : World} {b off : Nat} {L : List (List UInt8)} (h : SLs w b off L) (hb : Below w.heap.size w w') : SLs w' b off L :=
  ⟨Nat.lt_of_lt_of_le h.1 hb.size, fun i x hx => (hb.cell (p := ⟨b, off + i, none⟩) h.1).trans (h.2 i x hx)⟩
theorem SLs.at {w : World} {b : Nat} {L : List (List UInt8)} (h : SLs w b 0 L) (i : Nat) {x : List UInt8} (hx : L[i]? = some x) : w.cell? ⟨b, i, none⟩ = some (tx x) := by simpa using h.2 i x hx
theorem SLs.new (w : World) (L : List (List UInt8)) (T : TypeId) : SLs (w.alloc (.cells (tvals L).toArray T)) w.heap.size 0 L :=
  ⟨by simp, fun i x hx => by rw [Nat.zero_add]; exact (cellS (newS w _) i).trans (by simp [tvals, hx])⟩
/-- words of one's own -/
def OWN (base : Nat) (L : List (List UInt8)) (w : World) (v : Value) : Prop := base ≤ w.heap.size ∧ w.ownsRow base 9 1 v L.length (tvals L)
theorem OWN.keep {base : Nat} {L : List (List UInt8)} {w w' : World} {v : Value} (h : OWN base L w v) (hb : Below w.heap.size w w') : OWN base L w' v :=
  ⟨Nat.le_trans h.1 hb.size, h.2.kept (row := none) ⟨hb.os, hb.tape, hb.output, hb.size, fun k hk _ => hb.block k hk⟩ (by cases e : v.ownBlock <;> simp)⟩
theorem OWN.new (w : World) (base : Nat) (hb : base ≤ w.heap.size) (L : List (List UInt8)) (hm : L.length ≤ 1000) : OWN base L (w.alloc (.cells (tvals L).toArray 9)) (.slice (some ⟨w.heap.size, 0, none⟩) L.length L.length) :=
  ⟨by simp; omega, by simp [tvals], .inr ⟨w.heap.size, L.length, (tvals L).toArray, rfl, hb, newS w _, Nat.le_refl _, by simp only [maxLen]; omega, by simp [tvals], by rw [Nat.mul_one]; exact List.take_of_length_le (by simp [tvals])⟩⟩
theorem str_info : ∃ (i : TypeInfo) (z : Value), Tryd.prog.info? 9 = some i ∧ i.zero = some z ∧ i.size = 1 ∧ i.bytes = 16 ∧ z.cells.size = 1 := by
  have hinfo : (Tryd.prog.info? 9).map (fun i => (i.zero, i.size, i.bytes)) = some (some (.string ⟨#[]⟩), 1, 16) := by kernel_rfl
  obtain ⟨i, hi, h1, h2, h3⟩ := info_parts hinfo
  exact ⟨i, _, hi, h1, h2, h3, rfl⟩
def optL (told : Bool) (M L : List (List UInt8)) : List (List UInt8) := if told then L ++ M else L
theorem optL_len (told : Bool) (M L : List (List UInt8)) : (optL told M L).length ≤ L.length + M.length := by cases told <;> simp [optL]
theorem addT (b off n : Nat) : (⟨b, off, none⟩ : Addr).add n = ⟨b, off + n, none⟩ := by
  unfold Addr.add
  split <;> simp_all
theorem appendIf_v (base : Nat) (v : Value) (L M : List (List UInt8)) (told : Bool) (g c : Nat) (w : World) (ho : OWN base L w v) (hM : SLs w g 0 M) (hs : L.length + M.length ≤ 1000) :
    Calls Tryd.prog 60 #[v, .bool told, .slice (some ⟨g, 0, none⟩) M.length c] w fun e w' => (∃ v', e = .returned v' ∧ OWN base (optL told M L) w' v') ∧ Below base w w' := by
  cases told
  · go_enter Tryd.func60, Tryd.ntmps60
    go_wp2
    go_ret
    exact ⟨⟨_, rfl, ho⟩, (Below.refl _ _)⟩
  · obtain ⟨ti, tz, ti1, ti2, ti3, ti4, ti5⟩ := str_info
    have hnews : ∀ (j : Nat) (u : Value), (tvals M)[j]? = some u → w.cell? ((⟨g, 0, none⟩ : Addr).add j) = some u := fun j u hu => by
      rw [addT]
      simp only [tvals, List.getElem?_map, Option.map_eq_some_iff] at hu
      obtain ⟨x, hx, rfl⟩ := hu
      exact hM.2 j x hx
    have hob := ho.2.lt
    go_enter Tryd.func60, Tryd.ntmps60
    go_wp2_with (at_builtin; refine wpList_append_own _ rfl _ _ 39 rfl base 9 ti tz 1 16 Tryd.underlying39 ti1 ti2 ti3 ti4 ti5 (by decide) _ _ _ rfl ho.2 ⟨g, 0, none⟩ M.length c (tvals M) rfl (by simp [tvals]) hnews (tvals_one M) (by simp only [maxLen]; omega) (by omega) ho.1 ?_)
    intro v5 w5 how5 hgr5 _
    rw [tvals_app] at how5
    have h5 : OWN base (optL true M L) w5 v5 := ⟨Nat.le_trans ho.1 hgr5.size, by simpa [optL] using how5⟩
    have hB : Below base w w5 := ⟨hgr5.os, hgr5.tape, hgr5.output, hgr5.size, fun k hk => hgr5.block k (Nat.lt_of_lt_of_le hk ho.1) (fun e => by have := hob k e.symm; omega)⟩
    clear how5 hgr5 hob hnews hM ho
    go_wp2
    go_ret
    exact ⟨⟨_, rfl, h5⟩, hB⟩
def sideWds : List (List UInt8) := [[116, 111, 112], [98, 111, 116, 116, 111, 109], [108, 101, 102, 116], [114, 105, 103, 104, 116]]
def sideB (s : Int) : List UInt8 := sideWds.getD s.toNat []
/-- the words of the sides, somewhere -/
def SWv (w : World) (v : Value) : Prop := ∃ g, v = .slice (some ⟨g, 0, none⟩) 4 4 ∧ SLs w g 0 sideWds
theorem SWv.keep {w w' : World} {v : Value} (h : SWv w v) (hb : Below w.heap.size w w') : SWv w' v := let ⟨g, e, s⟩ := h; ⟨g, e, s.keep hb⟩
theorem sideWords_v (w : World) : Calls Tryd.prog 49 #[] w fun e w' => (∃ v, e = .returned v ∧ SWv w' v) ∧ Below w.heap.size w w' := by
  go_enter Tryd.func49, Tryd.ntmps49
  go_wp2
  go_ret
  exact ⟨⟨_, rfl, w.heap.size, rfl, SLs.new w sideWds _⟩, balloc (Below.refl _ _)⟩
theorem ssideWords_v (w : World) : Calls Tryd.prog 45 #[] w fun e w' => (∃ v, e = .returned v ∧ SWv w' v) ∧ Below w.heap.size w w' := by
  go_enter Tryd.func45, Tryd.ntmps45
  go_wp2
  go_ret
  exact ⟨⟨_, rfl, w.heap.size, rfl, SLs.new w sideWds _⟩, balloc (Below.refl _ _)⟩
/-- an address where a word is -/
def SPt (x : List UInt8) (w : World) (v : Value) : Prop := ∃ b o, v = .pointer (some ⟨b, o, none⟩) ∧ b < w.heap.size ∧ w.cell? ⟨b, o, none⟩ = some (tx x)
theorem SPt.keep {x : List UInt8} {w w' : World} {v : Value} (h : SPt x w v) (hb : Below w.heap.size w w') : SPt x w' v := let ⟨b, o, e, hl, hc⟩ := h; ⟨b, o, e, Nat.lt_of_lt_of_le hl hb.size, (hb.cell (p := ⟨b, o, none⟩) hl).trans hc⟩
end Go.Proofs.YtjfdmdmlgdgchaaDoor
end
section
namespace Go.Proofs.YtjfdmdmlgdgchaaDoor
set_option linter.unusedVariables false
set_option linter.unusedSimpArgs false
/-! Numbers in decimal are told apart. -/
def vdig (l : List UInt8) : Nat := l.foldl (fun a d => 10 * a + (d.toNat - 48)) 0
theorem dig_toNat {k : Nat} (h : k < 10) : (UInt8.ofNat (48 + k)).toNat = 48 + k := by
  simp [UInt8.toNat_ofNat]; omega
theorem vdig_dec (m : Nat) : vdig (Lib.decDigits m) = m := by
  induction m using Nat.strongRecOn with
  | _ m ih =>
    rw [Lib.decDigits]
    split
    · rename_i h
      show 10 * 0 + ((UInt8.ofNat (48 + m)).toNat - 48) = m
      rw [dig_toNat h]; omega
    · rename_i h
      have := ih (m / 10) (by omega)
      unfold vdig at this ⊢
      rw [List.foldl_append, this]
      simp only [List.foldl_cons, List.foldl_nil, dig_toNat (show m % 10 < 10 by omega)]
      omega
theorem dec_ge (m : Nat) : ∀ d ∈ Lib.decDigits m, 48 ≤ d.toNat ∧ d.toNat ≤ 57 := by
  induction m using Nat.strongRecOn with
  | _ m ih =>
    rw [Lib.decDigits]
    split
    · rename_i h
      intro d hd
      obtain rfl := List.mem_singleton.1 hd
      rw [dig_toNat h]; omega
    · rename_i h
      intro d hd
      rcases List.mem_append.1 hd with hd | hd
      · exact ih (m / 10) (by omega) d hd
      · obtain rfl := List.mem_singleton.1 hd
        rw [dig_toNat (by omega)]; omega
theorem dec_inj {a b : Nat} (h : Lib.decDigits a = Lib.decDigits b) : a = b := by rw [← vdig_dec a, ← vdig_dec b, h]
theorem dec_ne_nil (m : Nat) : Lib.decDigits m ≠ [] := by
  rw [Lib.decDigits]
  split <;> simp
theorem itoa_inj {a b : Int} (h : Lib.itoa a = Lib.itoa b) : a = b := by
  unfold Lib.itoa at h
  split at h <;> split at h
  · have := dec_inj (List.cons.inj h).2; omega
  · have h1 : (45 : UInt8) ∈ Lib.decDigits b.toNat := by rw [← h]; exact List.mem_cons_self
    have := (dec_ge _ _ h1).1
    simp at this
  · have h1 : (45 : UInt8) ∈ Lib.decDigits a.toNat := by rw [h]; exact List.mem_cons_self
    have := (dec_ge _ _ h1).1
    simp at this
  · have := dec_inj h; omega
theorem itoa_ne_nil (a : Int) : Lib.itoa a ≠ [] := by
  unfold Lib.itoa
  split
  · simp
  · exact dec_ne_nil _
end Go.Proofs.YtjfdmdmlgdgchaaDoor
end
section
namespace Go.Proofs.YtjfdmdmlgdgchaaDoor
open Go.RowKit
set_option linter.unusedVariables false
set_option linter.unusedSimpArgs false
set_option maxHeartbeats 1000000
attribute [local go_sem] growUpon_value growUpon_skip growUpon_enter
attribute [local go_sem] givesUpon_value givesUpon_skip givesUpon_enter
/-! An item's words. -/
def FX : List UInt8 := [102, 105, 108, 108, 120]
def FY : List UInt8 := [102, 105, 108, 108, 121]
def EX : List UInt8 := [101, 120, 112, 97, 110, 100]
def AN : List UInt8 := [97, 110, 99, 104, 111, 114]
def PXW : List UInt8 := [112, 97, 100, 120]
def PYW : List UInt8 := [112, 97, 100, 121]
def wd0 (w0 h0 s : Int) : List (List UInt8) := [sideB s, Lib.itoa w0, Lib.itoa h0]
def wd1 (w0 h0 s : Int) (fx : Bool) := optL fx [FX] (wd0 w0 h0 s)
def wd2 (w0 h0 s : Int) (fx fy : Bool) := optL fy [FY] (wd1 w0 h0 s fx)
def wd3 (w0 h0 s : Int) (fx fy ex : Bool) := optL ex [EX] (wd2 w0 h0 s fx fy)
def wd4 (w0 h0 s : Int) (fx fy ex : Bool) (an : Int) := optL (an != 4) [AN, Lib.itoa an] (wd3 w0 h0 s fx fy ex)
def wd5 (w0 h0 s : Int) (fx fy ex : Bool) (an px : Int) := optL (px != 0) [PXW, Lib.itoa px] (wd4 w0 h0 s fx fy ex an)
def wds (w0 h0 s : Int) (fx fy ex : Bool) (an px py : Int) := optL (py != 0) [PYW, Lib.itoa py] (wd5 w0 h0 s fx fy ex an px)
def pkT (w0 h0 s : Int) (fx fy ex : Bool) (an px py : Int) : List UInt8 := Lib.join (wds w0 h0 s fx fy ex an px py) [32]
/-- a list of these words -/
def SLv (L : List (List UInt8)) (w : World) (v : Value) : Prop := ∃ g, v = .slice (some ⟨g, 0, none⟩) L.length L.length ∧ SLs w g 0 L
theorem SLv.keep {L : List (List UInt8)} {w w' : World} {v : Value} (h : SLv L w v) (hb : Below w.heap.size w w') : SLv L w' v := let ⟨g, e, s⟩ := h; ⟨g, e, s.keep hb⟩
theorem appendIf1 (base : Nat) (v : Value) (L : List (List UInt8)) (m : List UInt8) (told : Bool) (w : World) (ho : OWN base L w v) (hs : L.length ≤ 900) :
    Calls Tryd.prog 60 #[v, .bool told, .slice (some ⟨w.heap.size, 0, none⟩) 1 1] (w.alloc (.cells #[tx m] 9)) fun e w' => (∃ v', e = .returned v' ∧ OWN base (optL told [m] L) w' v') ∧ Below base w w' := by
  refine (appendIf_v base v L [m] told w.heap.size 1 _ (ho.keep (balloc (Below.refl _ _))) (SLs.new w [m] _) (by simp; omega)).mono ?_
  rintro e w' ⟨h1, h2⟩
  exact ⟨h1, ((Below.refl base w).alloc ho.1 _).trans h2⟩
theorem appendIf2 (base : Nat) (v : Value) (L : List (List UInt8)) (a b : List UInt8) (told : Bool) (g : Nat) (w : World) (ho : OWN base L w v) (hM : SLs w g 0 [a, b]) (hs : L.length ≤ 900) :
    Calls Tryd.prog 60 #[v, .bool told, .slice (some ⟨g, 0, none⟩) 2 2] w fun e w' => (∃ v', e = .returned v' ∧ OWN base (optL told [a, b] L) w' v') ∧ Below base w w' :=
  appendIf_v base v L [a, b] told g 2 w ho hM (by simp; omega)
set_option maxRecDepth 100000 in
theorem words_v (w0 h0 s : Int) (fx fy ex : Bool) (an px py : Int) (w : World) (hv : vpB w0 h0 s an px py = true) (hT : LT.TW w) :
    Calls Tryd.prog 32 #[.agg #[.int .i64 w0, .int .i64 h0, .int .i64 s, .bool fx, .bool fy, .bool ex, .int .i64 an, .int .i64 px, .int .i64 py]] w fun e w' => (∃ v, e = .returned v ∧ OWN (w.heap.size + 1) (wds w0 h0 s fx fy ex an px py) w' v) ∧ Below w.heap.size w w' := by
  obtain ⟨⟨a1, a2⟩, ⟨a3, a4⟩, ⟨a5, a6⟩, ⟨a7, a8⟩, ⟨a9, a10⟩, ⟨a11, a12⟩⟩ := vpB_iff.1 hv
  have hs4 : s = 0 ∨ s = 1 ∨ s = 2 ∨ s = 3 := by omega
  have IW := Lib.hid (fun w h => itoa_v w0 (by omega) w h)
  have IH := Lib.hid (fun w h => itoa_v h0 (by omega) w h)
  have IA := Lib.hid (fun w h => itoa_v an (by omega) w h)
  have IX := Lib.hid (fun w h => itoa_v px (by omega) w h)
  have IY := Lib.hid (fun w h => itoa_v py (by omega) w h)
  have l0 : (wd0 w0 h0 s).length = 3 := rfl
  have l1 : (wd1 w0 h0 s fx).length ≤ 4 := by have := optL_len fx [FX] (wd0 w0 h0 s); simp at this; unfold wd1; omega
  have l2 : (wd2 w0 h0 s fx fy).length ≤ 5 := by have := optL_len fy [FY] (wd1 w0 h0 s fx); simp at this; unfold wd2; omega
  have l3 : (wd3 w0 h0 s fx fy ex).length ≤ 6 := by have := optL_len ex [EX] (wd2 w0 h0 s fx fy); simp at this; unfold wd3; omega
  have l4 : (wd4 w0 h0 s fx fy ex an).length ≤ 8 := by have := optL_len (an != 4) [AN, Lib.itoa an] (wd3 w0 h0 s fx fy ex); simp at this; unfold wd4; omega
  have l5 : (wd5 w0 h0 s fx fy ex an px).length ≤ 10 := by have := optL_len (px != 0) [PXW, Lib.itoa px] (wd4 w0 h0 s fx fy ex an); simp at this; unfold wd5; omega
  have HS4 := Lib.hid hs4
  clear hv a1 a2 a3 a4 a5 a6 a7 a8 a9 a10 a11 a12 hs4
  go_enter Tryd.func32, Tryd.ntmps32
  go_wp2_with fail
  have HX := Lib.hid (newS w (.cells #[.int .i64 w0, .int .i64 h0, .int .i64 s, .bool fx, .bool fy, .bool ex, .int .i64 an, .int .i64 px, .int .i64 py] 23))
  have HB := Lib.hid (balloc (o := (.cells #[.int .i64 w0, .int .i64 h0, .int .i64 s, .bool fx, .bool fy, .bool ex, .int .i64 an, .int .i64 px, .int .i64 py] 23)) (Below.refl w.heap.size w))
  have HT := Lib.hid (hT.keep HB.out)
  have hs1 : (w.alloc (.cells #[.int .i64 w0, .int .i64 h0, .int .i64 s, .bool fx, .bool fy, .bool ex, .int .i64 an, .int .i64 px, .int .i64 py] 23)).heap.size = w.heap.size + 1 := by simp
  refine wp_named (fun W0 e0 => ?_)
  rw [← e0] at HX HB HT hs1 ⊢
  clear e0
  obtain ⟨c0, c1, c2, c3, c4, c5, c6, c7, c8⟩ := b9c HX.out
  have hlx := ltS HX.out
  refine wp_region_rxl 12 1 [] #[true, true, true, true, true, true, true, true, true, true, true, true, false] (by kernel_rfl) (by kernel_rfl) (by kernel_rfl) ((fun v a => SWv a v) :: XV (.pointer (some ⟨w.heap.size, 2, none⟩)) :: XV (.int .i64 s) :: (fun v a => SPt (sideB s) a v) :: XV (tx (sideB s)) :: XV (.pointer (some ⟨w.heap.size, 0, none⟩)) :: XV (.int .i64 w0) :: XV (tx (Lib.itoa w0)) :: XV (.pointer (some ⟨w.heap.size, 1, none⟩)) :: XV (.int .i64 h0) :: XV (tx (Lib.itoa h0)) :: (fun v a => OWN (w.heap.size + 1) (wd0 w0 h0 s) a v) :: []) (by kernel_rfl) (by kernel_rfl) (by kernel_rfl) ?hTs ?hXs ?hops ?hfin
  case hTs =>
    intro T hT
    simp only [List.mem_cons, List.not_mem_nil, or_false] at hT
    rcases hT with rfl | rfl | rfl | rfl | rfl | rfl | rfl | rfl | rfl | rfl | rfl | rfl <;> first | exact stay_V _ | exact stay_T | exact stay_of (fun v a b x g => x.keep g) | exact stay_of (fun v a b x g => x)
  case hXs =>
    intro x d s hx
    exact absurd hx (List.not_mem_nil)
  case hops =>
    refine ⟨opOK_rx [] (by kernel_rfl) rfl ?_, ?_⟩
    · intro act w' hw' 
      have hk : ∀ v, act.eval (.const v) = v := fun _ => rfl
      have hf : ∀ f, act.eval (.func f) = .func (.func f) #[] #[] := fun _ => rfl
      generalize act.eval = ρ at *
      refine gx_gen (fun K hK => ?_)
      obtain ⟨hc, hf'⟩ := bcell (bdrewn hw'.out)
      go_simp
      (with_reducible refine (sideWords_v _).mono ?_); rintro e w2 ⟨⟨v, rfl, hv⟩, hb⟩; exact ⟨v, rfl, hK _ _ ⟨hv, Gr.of hb⟩⟩
    refine ⟨opOK_rx [(1, none)] (by kernel_rfl) rfl ?_, ?_⟩
    · intro act w' hw' h1
      have hk : ∀ v, act.eval (.const v) = v := fun _ => rfl
      have hf : ∀ f, act.eval (.func f) = .func (.func f) #[] #[] := fun _ => rfl
      generalize act.eval = ρ at *
      replace h1 : ρ (.tmp 1) = .pointer (some ⟨w.heap.size, 0, none⟩) := h1
      refine gx_gen (fun K hK => ?_)
      obtain ⟨hc, hf'⟩ := bcell (bdrewn hw'.out)
      go_simp
      exact hK _ _ ⟨rfl, Gr.refl _⟩
    refine ⟨opOK_rx [(5, some 1)] (by kernel_rfl) rfl ?_, ?_⟩
    · intro act w' hw' h1
      have hk : ∀ v, act.eval (.const v) = v := fun _ => rfl
      have hf : ∀ f, act.eval (.func f) = .func (.func f) #[] #[] := fun _ => rfl
      generalize act.eval = ρ at *
      replace h1 : ρ (.tmp 5) = .pointer (some ⟨w.heap.size, 2, none⟩) := h1
      refine gx_gen (fun K hK => ?_)
      obtain ⟨hc, hf'⟩ := bcell (bdrewn hw'.out)
      go_simp
      exact hK _ _ ⟨rfl, Gr.refl _⟩
    refine ⟨opOK_rx [(4, some 0), (6, some 2)] (by kernel_rfl) rfl ?_, ?_⟩
    · intro act w' hw' h1 h2
      have hk : ∀ v, act.eval (.const v) = v := fun _ => rfl
      have hf : ∀ f, act.eval (.func f) = .func (.func f) #[] #[] := fun _ => rfl
      generalize act.eval = ρ at *
      replace h1 : (fun v a => SWv a v) (ρ (.tmp 4)) w' := h1
      replace h2 : ρ (.tmp 6) = .int .i64 s := h2
      refine gx_gen (fun K hK => ?_)
      obtain ⟨g, e4, hS⟩ := h1; rcases HS4.out with rfl | rfl | rfl | rfl <;> (go_simp; exact hK _ _ ⟨⟨g, _, rfl, hS.1, hS.at _ rfl⟩, Gr.refl _⟩)
    refine ⟨opOK_rx [(7, some 3)] (by kernel_rfl) rfl ?_, ?_⟩
    · intro act w' hw' h1
      have hk : ∀ v, act.eval (.const v) = v := fun _ => rfl
      have hf : ∀ f, act.eval (.func f) = .func (.func f) #[] #[] := fun _ => rfl
      generalize act.eval = ρ at *
      replace h1 : (fun v a => SPt (sideB s) a v) (ρ (.tmp 7)) w' := h1
      refine gx_gen (fun K hK => ?_)
      obtain ⟨b, o, e7, hl, hcl⟩ := h1; go_simp; exact hK _ _ ⟨rfl, Gr.refl _⟩
    refine ⟨opOK_rx [(1, none)] (by kernel_rfl) rfl ?_, ?_⟩
    · intro act w' hw' h1
      have hk : ∀ v, act.eval (.const v) = v := fun _ => rfl
      have hf : ∀ f, act.eval (.func f) = .func (.func f) #[] #[] := fun _ => rfl
      generalize act.eval = ρ at *
      replace h1 : ρ (.tmp 1) = .pointer (some ⟨w.heap.size, 0, none⟩) := h1
      refine gx_gen (fun K hK => ?_)
      obtain ⟨hc, hf'⟩ := bcell (bdrewn hw'.out)
      go_simp
      exact hK _ _ ⟨rfl, Gr.refl _⟩
    refine ⟨opOK_rx [(9, some 5)] (by kernel_rfl) rfl ?_, ?_⟩
    · intro act w' hw' h1
      have hk : ∀ v, act.eval (.const v) = v := fun _ => rfl
      have hf : ∀ f, act.eval (.func f) = .func (.func f) #[] #[] := fun _ => rfl
      generalize act.eval = ρ at *
      replace h1 : ρ (.tmp 9) = .pointer (some ⟨w.heap.size, 0, none⟩) := h1
      refine gx_gen (fun K hK => ?_)
      obtain ⟨hc, hf'⟩ := bcell (bdrewn hw'.out)
      go_simp
      exact hK _ _ ⟨rfl, Gr.refl _⟩
    refine ⟨opOK_rx [(10, some 6)] (by kernel_rfl) rfl ?_, ?_⟩
    · intro act w' hw' h1
      have hk : ∀ v, act.eval (.const v) = v := fun _ => rfl
      have hf : ∀ f, act.eval (.func f) = .func (.func f) #[] #[] := fun _ => rfl
      generalize act.eval = ρ at *
      replace h1 : ρ (.tmp 10) = .int .i64 w0 := h1
      refine gx_gen (fun K hK => ?_)
      obtain ⟨hc, hf'⟩ := bcell (bdrewn hw'.out)
      go_simp
      (with_reducible refine (IW.out _ (HT.out.keep (bdrewn hw'.out))).mono ?_); rintro e w2 ⟨rfl, hb⟩; exact ⟨_, rfl, hK _ _ ⟨rfl, Gr.of hb⟩⟩
    refine ⟨opOK_rx [(1, none)] (by kernel_rfl) rfl ?_, ?_⟩
    · intro act w' hw' h1
      have hk : ∀ v, act.eval (.const v) = v := fun _ => rfl
      have hf : ∀ f, act.eval (.func f) = .func (.func f) #[] #[] := fun _ => rfl
      generalize act.eval = ρ at *
      replace h1 : ρ (.tmp 1) = .pointer (some ⟨w.heap.size, 0, none⟩) := h1
      refine gx_gen (fun K hK => ?_)
      obtain ⟨hc, hf'⟩ := bcell (bdrewn hw'.out)
      go_simp
      exact hK _ _ ⟨rfl, Gr.refl _⟩
    refine ⟨opOK_rx [(12, some 8)] (by kernel_rfl) rfl ?_, ?_⟩
    · intro act w' hw' h1
      have hk : ∀ v, act.eval (.const v) = v := fun _ => rfl
      have hf : ∀ f, act.eval (.func f) = .func (.func f) #[] #[] := fun _ => rfl
      generalize act.eval = ρ at *
      replace h1 : ρ (.tmp 12) = .pointer (some ⟨w.heap.size, 1, none⟩) := h1
      refine gx_gen (fun K hK => ?_)
      obtain ⟨hc, hf'⟩ := bcell (bdrewn hw'.out)
      go_simp
      exact hK _ _ ⟨rfl, Gr.refl _⟩
    refine ⟨opOK_rx [(13, some 9)] (by kernel_rfl) rfl ?_, ?_⟩
    · intro act w' hw' h1
      have hk : ∀ v, act.eval (.const v) = v := fun _ => rfl
      have hf : ∀ f, act.eval (.func f) = .func (.func f) #[] #[] := fun _ => rfl
      generalize act.eval = ρ at *
      replace h1 : ρ (.tmp 13) = .int .i64 h0 := h1
      refine gx_gen (fun K hK => ?_)
      obtain ⟨hc, hf'⟩ := bcell (bdrewn hw'.out)
      go_simp
      (with_reducible refine (IH.out _ (HT.out.keep (bdrewn hw'.out))).mono ?_); rintro e w2 ⟨rfl, hb⟩; exact ⟨_, rfl, hK _ _ ⟨rfl, Gr.of hb⟩⟩
    refine ⟨opOK_rx [(8, some 4), (11, some 7), (14, some 10)] (by kernel_rfl) rfl ?_, ?_⟩
    · intro act w' hw' h1 h2 h3
      have hk : ∀ v, act.eval (.const v) = v := fun _ => rfl
      have hf : ∀ f, act.eval (.func f) = .func (.func f) #[] #[] := fun _ => rfl
      generalize act.eval = ρ at *
      replace h1 : ρ (.tmp 8) = tx (sideB s) := h1
      replace h2 : ρ (.tmp 11) = tx (Lib.itoa w0) := h2
      replace h3 : ρ (.tmp 14) = tx (Lib.itoa h0) := h3
      refine gx_gen (fun K hK => ?_)
      have hsz := (bdrewn hw'.out).size; go_simp; exact hK _ _ ⟨OWN.new _ _ (by omega) (wd0 w0 h0 s) (by simp [wd0]), Gr.alloc _ _⟩
    exact trivial
  case hfin =>
    intro w1 hg1
    intro v4 t4
    replace t4 : (fun v a => SWv a v) v4 w1 := t4
    intro v5 t5
    replace t5 : v5 = .pointer (some ⟨w.heap.size, 2, none⟩) := t5
    subst t5
    intro v6 t6
    replace t6 : v6 = .int .i64 s := t6
    subst t6
    intro v7 t7
    replace t7 : (fun v a => SPt (sideB s) a v) v7 w1 := t7
    intro v8 t8
    replace t8 : v8 = tx (sideB s) := t8
    subst t8
    intro v9 t9
    replace t9 : v9 = .pointer (some ⟨w.heap.size, 0, none⟩) := t9
    subst t9
    intro v10 t10
    replace t10 : v10 = .int .i64 w0 := t10
    subst t10
    intro v11 t11
    replace t11 : v11 = tx (Lib.itoa w0) := t11
    subst t11
    intro v12 t12
    replace t12 : v12 = .pointer (some ⟨w.heap.size, 1, none⟩) := t12
    subst t12
    intro v13 t13
    replace t13 : v13 = .int .i64 h0 := t13
    subst t13
    intro v14 t14
    replace t14 : v14 = tx (Lib.itoa h0) := t14
    subst t14
    intro v15 t15
    replace t15 : (fun v a => OWN (w.heap.size + 1) (wd0 w0 h0 s) a v) v15 w1 := t15
    have hb1 := bdrewn hg1.out
    clear hg1
    simp only [finP, List.take_succ_cons, List.take_zero, Act.put, List.setIfInBounds_toArray, List.set_cons_succ, List.set_cons_zero]
    refine wpAny_one (i := 12) (by kernel_rfl) rfl rfl ?_
    go_simp
    refine wpAny_end (by kernel_rfl) ?_
    refine NoPan.thn ?_
    replace HX := Lib.hid ((hb1.block w.heap.size hlx).trans HX.out)
    replace HB := Lib.hid (bkeep2 HB.out hb1)
    clear hb1 c0 c1 c2 c3 c4 c5 c6 c7 c8 hlx t4 t7 HS4 HT
    have O0 := Lib.hid t15
    obtain ⟨c0, c1, c2, c3, c4, c5, c6, c7, c8⟩ := b9c HX.out
    have hlx := ltS HX.out
    go_wp2_with fail
    refine (appendIf1 (w.heap.size + 1) v15 (wd0 w0 h0 s) FX fx w1 O0.out (by omega)).mono ?_
    rintro e x0 ⟨⟨u0, rfl, o0⟩, hbx⟩
    replace HX := Lib.hid ((hbx.block w.heap.size (by omega)).trans HX.out)
    replace HB := Lib.hid (HB.out.trans (hbx.mono (by omega)))
    clear hbx c0 c1 c2 c3 c4 c5 c6 c7 c8 hlx O0
    replace o0 : OWN (w.heap.size + 1) (wd1 w0 h0 s fx) x0 u0 := o0
    have O1 := Lib.hid o0
    obtain ⟨c0, c1, c2, c3, c4, c5, c6, c7, c8⟩ := b9c HX.out
    have hlx := ltS HX.out
    go_wp2_with fail
    refine (appendIf1 (w.heap.size + 1) u0 (wd1 w0 h0 s fx) FY fy x0 O1.out (by omega)).mono ?_
    rintro e x1 ⟨⟨u1, rfl, o1⟩, hbx⟩
    replace HX := Lib.hid ((hbx.block w.heap.size (by omega)).trans HX.out)
    replace HB := Lib.hid (HB.out.trans (hbx.mono (by omega)))
    clear hbx c0 c1 c2 c3 c4 c5 c6 c7 c8 hlx O1
    replace o1 : OWN (w.heap.size + 1) (wd2 w0 h0 s fx fy) x1 u1 := o1
    have O2 := Lib.hid o1
    obtain ⟨c0, c1, c2, c3, c4, c5, c6, c7, c8⟩ := b9c HX.out
    have hlx := ltS HX.out
    go_wp2_with fail
    refine (appendIf1 (w.heap.size + 1) u1 (wd2 w0 h0 s fx fy) EX ex x1 O2.out (by omega)).mono ?_
    rintro e x2 ⟨⟨u2, rfl, o2⟩, hbx⟩
    replace HX := Lib.hid ((hbx.block w.heap.size (by omega)).trans HX.out)
    replace HB := Lib.hid (HB.out.trans (hbx.mono (by omega)))
    clear hbx c0 c1 c2 c3 c4 c5 c6 c7 c8 hlx O2
    replace o2 : OWN (w.heap.size + 1) (wd3 w0 h0 s fx fy ex) x2 u2 := o2
    have O3 := Lib.hid o2
    obtain ⟨c0, c1, c2, c3, c4, c5, c6, c7, c8⟩ := b9c HX.out
    have hlx := ltS HX.out
    have hT3 := Lib.hid (hT.keep HB.out)
    go_wp2_with fail
    refine wp_named (fun W3 eW3 => ?_)
    rw [← eW3] at HX HB hT3 hlx O3 c0 c1 c2 c3 c4 c5 c6 c7 c8 ⊢
    clear eW3
    refine wp_region_grow 7 3 (· < 8) (by kernel_rfl) (by kernel_rfl) rfl ?_
    iterate 7 (refine wpG_step (fun K hK => ?_); first | (refine grow_skip rfl ?_; go_simp; refine hK _ ?_; clear hK K) | (apply Exists.intro; refine ⟨.inl ⟨rfl, fun w' hw' => ?_⟩, ?_⟩; (focus ((obtain ⟨hc, hf⟩ := bcell hw'.out); (have hcS := bcellS hw'.out); go_simp <;> first | rfl | (go_at_call 59; (with_reducible refine (IA.out _ (hT3.out.keep (bdrewn hw'.out))).mono ?_; exact fun e w'' h => ⟨h.1, Gr.of h.2⟩)))); (go_simp; refine hK _ ?_; clear hK K)))
    refine wpG_nil ?_
    refine wpK_one (i := 7) (by kernel_rfl) rfl rfl (by kernel_rfl) (fun y3 hy3 => ?_)
    go_simp
    refine ⟨Gr.alloc _ _, ?_⟩
    refine wpK_tail (by kernel_rfl) (fun z3 hz3 => ?_)
    have S3 := (SLs.new y3 [AN, Lib.itoa an] 9).keep hz3.out
    have hb3 := bgrow (balloc (bgrow (Below.refl _ _).drew hy3)) hz3
    generalize y3.heap.size = g3 at *
    clear c0 c1 c2 c3 c4 c5 c6 c7 c8
    replace HX := Lib.hid ((hb3.block w.heap.size hlx).trans HX.out)
    replace HB := Lib.hid (bkeep2 HB.out hb3)
    have o3 := O3.out.keep hb3
    clear hb3 O3 hT3 hlx hy3 hz3
    refine wpAny_one (i := 8) (by kernel_rfl) rfl rfl ?_
    go_simp
    with_reducible refine (appendIf2 (w.heap.size + 1) u2 (wd3 w0 h0 s fx fy ex) AN (Lib.itoa an) (an != 4) g3 _ o3 S3 (by omega)).mono ?_
    rintro e x3 ⟨⟨u3, rfl, n3⟩, hbx⟩
    replace HX := Lib.hid ((hbx.block w.heap.size (by omega)).trans HX.out)
    replace HB := Lib.hid (HB.out.trans (hbx.mono (by omega)))
    clear hbx o3 S3
    replace n3 : OWN (w.heap.size + 1) (wd4 w0 h0 s fx fy ex an) x3 u3 := n3
    dsimp only
    refine wpAny_one (i := 9) (by kernel_rfl) rfl rfl ?_
    go_simp
    refine wpAny_end (by kernel_rfl) ?_
    refine NoPan.thn ?_
    have O4 := Lib.hid n3
    obtain ⟨c0, c1, c2, c3, c4, c5, c6, c7, c8⟩ := b9c HX.out
    have hlx := ltS HX.out
    have hT4 := Lib.hid (hT.keep HB.out)
    go_wp2_with fail
    refine wp_named (fun W4 eW4 => ?_)
    rw [← eW4] at HX HB hT4 hlx O4 c0 c1 c2 c3 c4 c5 c6 c7 c8 ⊢
    clear eW4
    refine wp_region_grow 7 3 (· < 8) (by kernel_rfl) (by kernel_rfl) rfl ?_
    iterate 7 (refine wpG_step (fun K hK => ?_); first | (refine grow_skip rfl ?_; go_simp; refine hK _ ?_; clear hK K) | (apply Exists.intro; refine ⟨.inl ⟨rfl, fun w' hw' => ?_⟩, ?_⟩; (focus ((obtain ⟨hc, hf⟩ := bcell hw'.out); (have hcS := bcellS hw'.out); go_simp <;> first | rfl | (go_at_call 59; (with_reducible refine (IX.out _ (hT4.out.keep (bdrewn hw'.out))).mono ?_; exact fun e w'' h => ⟨h.1, Gr.of h.2⟩)))); (go_simp; refine hK _ ?_; clear hK K)))
    refine wpG_nil ?_
    refine wpK_one (i := 7) (by kernel_rfl) rfl rfl (by kernel_rfl) (fun y4 hy4 => ?_)
    go_simp
    refine ⟨Gr.alloc _ _, ?_⟩
    refine wpK_tail (by kernel_rfl) (fun z4 hz4 => ?_)
    have S4 := (SLs.new y4 [PXW, Lib.itoa px] 9).keep hz4.out
    have hb4 := bgrow (balloc (bgrow (Below.refl _ _).drew hy4)) hz4
    generalize y4.heap.size = g4 at *
    clear c0 c1 c2 c3 c4 c5 c6 c7 c8
    replace HX := Lib.hid ((hb4.block w.heap.size hlx).trans HX.out)
    replace HB := Lib.hid (bkeep2 HB.out hb4)
    have o4 := O4.out.keep hb4
    clear hb4 O4 hT4 hlx hy4 hz4
    refine wpAny_one (i := 8) (by kernel_rfl) rfl rfl ?_
    go_simp
    with_reducible refine (appendIf2 (w.heap.size + 1) u3 (wd4 w0 h0 s fx fy ex an) PXW (Lib.itoa px) (px != 0) g4 _ o4 S4 (by omega)).mono ?_
    rintro e x4 ⟨⟨u4, rfl, n4⟩, hbx⟩
    replace HX := Lib.hid ((hbx.block w.heap.size (by omega)).trans HX.out)
    replace HB := Lib.hid (HB.out.trans (hbx.mono (by omega)))
    clear hbx o4 S4
    replace n4 : OWN (w.heap.size + 1) (wd5 w0 h0 s fx fy ex an px) x4 u4 := n4
    dsimp only
    refine wpAny_one (i := 9) (by kernel_rfl) rfl rfl ?_
    go_simp
    refine wpAny_end (by kernel_rfl) ?_
    refine NoPan.thn ?_
    have O5 := Lib.hid n4
    obtain ⟨c0, c1, c2, c3, c4, c5, c6, c7, c8⟩ := b9c HX.out
    have hlx := ltS HX.out
    have hT5 := Lib.hid (hT.keep HB.out)
    go_wp2_with fail
    refine wp_named (fun W5 eW5 => ?_)
    rw [← eW5] at HX HB hT5 hlx O5 c0 c1 c2 c3 c4 c5 c6 c7 c8 ⊢
    clear eW5
    refine wp_region_grow 7 3 (· < 8) (by kernel_rfl) (by kernel_rfl) rfl ?_
    iterate 7 (refine wpG_step (fun K hK => ?_); first | (refine grow_skip rfl ?_; go_simp; refine hK _ ?_; clear hK K) | (apply Exists.intro; refine ⟨.inl ⟨rfl, fun w' hw' => ?_⟩, ?_⟩; (focus ((obtain ⟨hc, hf⟩ := bcell hw'.out); (have hcS := bcellS hw'.out); go_simp <;> first | rfl | (go_at_call 59; (with_reducible refine (IY.out _ (hT5.out.keep (bdrewn hw'.out))).mono ?_; exact fun e w'' h => ⟨h.1, Gr.of h.2⟩)))); (go_simp; refine hK _ ?_; clear hK K)))
    refine wpG_nil ?_
    refine wpK_one (i := 7) (by kernel_rfl) rfl rfl (by kernel_rfl) (fun y5 hy5 => ?_)
    go_simp
    refine ⟨Gr.alloc _ _, ?_⟩
    refine wpK_tail (by kernel_rfl) (fun z5 hz5 => ?_)
    have S5 := (SLs.new y5 [PYW, Lib.itoa py] 9).keep hz5.out
    have hb5 := bgrow (balloc (bgrow (Below.refl _ _).drew hy5)) hz5
    generalize y5.heap.size = g5 at *
    clear c0 c1 c2 c3 c4 c5 c6 c7 c8
    replace HX := Lib.hid ((hb5.block w.heap.size hlx).trans HX.out)
    replace HB := Lib.hid (bkeep2 HB.out hb5)
    have o5 := O5.out.keep hb5
    clear hb5 O5 hT5 hlx hy5 hz5
    refine wpAny_one (i := 8) (by kernel_rfl) rfl rfl ?_
    go_simp
    with_reducible refine (appendIf2 (w.heap.size + 1) u4 (wd5 w0 h0 s fx fy ex an px) PYW (Lib.itoa py) (py != 0) g5 _ o5 S5 (by omega)).mono ?_
    rintro e x5 ⟨⟨u5, rfl, n5⟩, hbx⟩
    replace HX := Lib.hid ((hbx.block w.heap.size (by omega)).trans HX.out)
    replace HB := Lib.hid (HB.out.trans (hbx.mono (by omega)))
    clear hbx o5 S5
    replace n5 : OWN (w.heap.size + 1) (wds w0 h0 s fx fy ex an px py) x5 u5 := n5
    dsimp only
    refine wpAny_one (i := 9) (by kernel_rfl) rfl rfl ?_
    go_simp
    refine wpAny_end (by kernel_rfl) ?_
    refine NoPan.thn ?_
    go_wp2
    go_ret
    exact ⟨⟨_, rfl, n5⟩, HB.out⟩
end Go.Proofs.YtjfdmdmlgdgchaaDoor
end
section
namespace Go.Proofs.YtjfdmdmlgdgchaaDoor
open Go.RowKit
set_option linter.unusedVariables false
set_option linter.unusedSimpArgs false
set_option maxHeartbeats 1000000
attribute [local go_sem] growUpon_value growUpon_skip growUpon_enter
attribute [local go_sem] givesUpon_value givesUpon_skip givesUpon_enter
/-! An item's text. -/
theorem join_snoc (L : List (List UInt8)) (x sp : List UInt8) (h : L ≠ []) : Lib.join (L ++ [x]) sp = Lib.join L sp ++ sp ++ x := by
  cases L with
  | nil => exact absurd rfl h
  | cons y r =>
    rw [List.cons_append, Lib.join_cons, Lib.join_cons]
    simp [Lib.joinTail, List.append_assoc]
theorem join_le (K : Nat) (sp : List UInt8) (hs : sp.length ≤ 1) : ∀ (L : List (List UInt8)), (∀ x ∈ L, x.length ≤ K) → (Lib.join L sp).length ≤ L.length * (K + 1)
  | [], _ => by simp [Lib.join_nil]
  | x :: r, h => by
    rw [Lib.join_cons, List.length_append]
    have h1 := h x List.mem_cons_self
    have h2 : ∀ (r : List (List UInt8)), (∀ x ∈ r, x.length ≤ K) → (Lib.joinTail sp r).length ≤ r.length * (K + 1) := by
      intro r
      induction r with
      | nil => intro _; simp [Lib.joinTail]
      | cons y t ih =>
        intro hy
        have := ih (fun z hz => hy z (List.mem_cons_of_mem _ hz))
        have h3 := hy y List.mem_cons_self
        unfold Lib.joinTail at this ⊢
        rw [List.map_cons, List.flatten_cons, List.length_append, List.length_append, List.length_cons, Nat.add_mul]
        omega
    have h3 := h2 r (fun z hz => h z (List.mem_cons_of_mem _ hz))
    rw [List.length_cons, Nat.add_mul]
    omega
theorem opt_all {P : List UInt8 → Prop} {t : Bool} {M L : List (List UInt8)} (h1 : ∀ x ∈ M, P x) (h2 : ∀ x ∈ L, P x) : ∀ x ∈ optL t M L, P x := by
  intro x hx
  cases t
  · exact h2 x hx
  · rcases List.mem_append.1 (show x ∈ L ++ M from hx) with h | h
    · exact h2 x h
    · exact h1 x h
theorem itoa_small {n : Int} (h : 0 ≤ n ∧ n ≤ 40) : (Lib.itoa n).length ≤ 50 := by have := itoa_len n; omega
theorem wds_all {w0 h0 s : Int} {fx fy ex : Bool} {an px py : Int} (hv : vpB w0 h0 s an px py = true) : ∀ x ∈ wds w0 h0 s fx fy ex an px py, x.length ≤ 50 := by
  obtain ⟨⟨a1, a2⟩, ⟨a3, a4⟩, ⟨a5, a6⟩, ⟨a7, a8⟩, ⟨a9, a10⟩, ⟨a11, a12⟩⟩ := vpB_iff.1 hv
  have i1 := @itoa_small w0 (by omega)
  have i2 := @itoa_small h0 (by omega)
  have i3 := @itoa_small an (by omega)
  have i4 := @itoa_small px (by omega)
  have i5 := @itoa_small py (by omega)
  have hs : (sideB s).length ≤ 50 := by
    have : s = 0 ∨ s = 1 ∨ s = 2 ∨ s = 3 := by omega
    rcases this with rfl | rfl | rfl | rfl <;> decide
  refine opt_all ?_ (opt_all ?_ (opt_all ?_ (opt_all ?_ (opt_all ?_ (opt_all ?_ ?_)))))
  all_goals
    intro x hx
    simp only [wd0, FX, FY, EX, AN, PXW, PYW, List.mem_cons, List.not_mem_nil, or_false] at hx
  · rcases hx with rfl | rfl <;> simp_all
  · rcases hx with rfl | rfl <;> simp_all
  · rcases hx with rfl | rfl <;> simp_all
  · subst hx; decide
  · subst hx; decide
  · subst hx; decide
  · rcases hx with rfl | rfl | rfl <;> assumption
theorem opt_ne {t : Bool} {M L : List (List UInt8)} (h : L ≠ []) : optL t M L ≠ [] := by cases t <;> simp [optL, h]
theorem wds_len {w0 h0 s : Int} {fx fy ex : Bool} {an px py : Int} : (wds w0 h0 s fx fy ex an px py).length ≤ 12 := by
  have l1 := optL_len fx [FX] (wd0 w0 h0 s)
  have l2 := optL_len fy [FY] (wd1 w0 h0 s fx)
  have l3 := optL_len ex [EX] (wd2 w0 h0 s fx fy)
  have l4 := optL_len (an != 4) [AN, Lib.itoa an] (wd3 w0 h0 s fx fy ex)
  have l5 := optL_len (px != 0) [PXW, Lib.itoa px] (wd4 w0 h0 s fx fy ex an)
  have l6 := optL_len (py != 0) [PYW, Lib.itoa py] (wd5 w0 h0 s fx fy ex an px)
  simp only [wd0, wd1, wd2, wd3, wd4, wd5, wds, List.length_cons, List.length_nil] at *
  omega
theorem pkT_len {w0 h0 s : Int} {fx fy ex : Bool} {an px py : Int} (hv : vpB w0 h0 s an px py = true) : (pkT w0 h0 s fx fy ex an px py).length ≤ 700 := by
  have h1 := join_le 50 [32] (by simp) _ (wds_all (fx := fx) (fy := fy) (ex := ex) hv)
  have h2 := @wds_len w0 h0 s fx fy ex an px py
  unfold pkT
  have : (wds w0 h0 s fx fy ex an px py).length * 51 ≤ 12 * 51 := Nat.mul_le_mul_right _ h2
  omega
theorem join_v (base : Nat) (L : List (List UInt8)) (v : Value) (w : World) (h : OWN base L w v) (h0 : 1 ≤ L.length) (hL : L.length ≤ 1000) (hl : (Lib.join L [32]).length ≤ 1000000) :
    Calls Tryd.prog 31 #[v, .string ⟨#[32]⟩] w fun e w' => e = .returned (tx (Lib.join L [32])) ∧ Below w.heap.size w w' := by
  obtain ⟨_, _, h⟩ := h
  rcases h with ⟨rfl, h⟩ | ⟨g, cap, cur, rfl, hb, hg, hc, hm, hs, ht⟩
  · omega
  · have hx : (L.map fun l => (⟨l.toArray⟩ : ByteArray)).map (·.data.toList) = L := by rw [List.map_map]; exact (List.map_congr_left (fun x _ => rfl)).trans (List.map_id L)
    have := Tryd.strings_Join g 0 cap (L.map fun l => ⟨l.toArray⟩) ⟨#[32]⟩ w (fun j x hj => by
      simp only [List.getElem?_map, Option.map_eq_some_iff] at hj
      obtain ⟨y, hy, rfl⟩ := hj
      have e : (tvals L)[j]? = some (tx y) := by simp [tvals, hy]
      have hi := (List.getElem?_eq_some_iff.1 hy).1
      rw [← ht, List.getElem?_take, if_pos (by omega)] at e
      rw [Nat.zero_add]
      have e' : cur[j]? = some (tx y) := by simpa using e
      exact (cellS hg j).trans e') (ltS hg) (by simp; omega) (by simpa using hc) (by rw [hx]; show (Lib.join L [32]).length ≤ _; omega)
    rw [hx] at this
    simp only [List.length_map] at this
    exact this
theorem PackText_v (w0 h0 s : Int) (fx fy ex : Bool) (an px py : Int) (w : World) (hT : LT.TW w) :
    Calls Tryd.prog 17 #[.agg #[.int .i64 w0, .int .i64 h0, .int .i64 s, .bool fx, .bool fy, .bool ex, .int .i64 an, .int .i64 px, .int .i64 py]] w fun e w' => e = .returned (tx (if vpB w0 h0 s an px py then pkT w0 h0 s fx fy ex an px py else [])) ∧ Below w.heap.size w w' := by
  have HV := Lib.hid (fun w => validPack_any w0 h0 s fx fy ex an px py w)
  cases hv : vpB w0 h0 s an px py
  · rw [hv] at HV
    go_enter Tryd.func17, Tryd.ntmps17
    go_wp2_with fail
    with_reducible refine (HV.out _).mono ?_
    rintro e w1 ⟨rfl, hb⟩
    go_wp2
    go_ret
    exact ⟨rfl, bkeep2 (balloc (Below.refl _ _)) hb⟩
  · rw [hv] at HV
    have HW := Lib.hid (fun w h => words_v w0 h0 s fx fy ex an px py w hv h)
    have hl := @pkT_len w0 h0 s fx fy ex an px py hv
    have hn := @wds_len w0 h0 s fx fy ex an px py
    have h1 : 1 ≤ (wds w0 h0 s fx fy ex an px py).length := List.length_pos_iff.2 (opt_ne (opt_ne (opt_ne (opt_ne (opt_ne (opt_ne (by simp [wd0])))))))
    rw [if_pos rfl]
    unfold pkT at hl ⊢
    have HJ := Lib.hid (fun base v w h => join_v base _ v w h h1 (by omega) (by omega))
    generalize wds w0 h0 s fx fy ex an px py = L at *
    clear hl hn h1 hv
    have HX := Lib.hid (newS w (.cells #[.int .i64 w0, .int .i64 h0, .int .i64 s, .bool fx, .bool fy, .bool ex, .int .i64 an, .int .i64 px, .int .i64 py] 23))
    have HB := Lib.hid (balloc (o := (.cells #[.int .i64 w0, .int .i64 h0, .int .i64 s, .bool fx, .bool fy, .bool ex, .int .i64 an, .int .i64 px, .int .i64 py] 23)) (Below.refl w.heap.size w))
    go_enter Tryd.func17, Tryd.ntmps17
    go_wp2_with fail
    with_reducible refine (HV.out _).mono ?_
    rintro e w1 ⟨rfl, hb⟩
    replace HX := Lib.hid ((hb.block _ (Array.getElem?_eq_some_iff.1 HX.out).1).trans HX.out)
    replace HB := Lib.hid (bkeep2 HB.out hb)
    clear hb
    obtain ⟨c0, c1, c2, c3, c4, c5, c6, c7, c8⟩ := b9c HX.out
    go_wp2_with fail
    with_reducible refine (HW.out _ (hT.keep HB.out)).mono ?_
    rintro e w2 ⟨⟨v, rfl, ho⟩, hb⟩
    clear c0 c1 c2 c3 c4 c5 c6 c7 c8
    replace HB := Lib.hid (bkeep2 HB.out hb)
    clear hb
    go_wp2_with fail
    with_reducible refine (HJ.out _ _ _ ho).mono ?_
    rintro e w3 ⟨rfl, hb⟩
    replace HB := Lib.hid (bkeep2 HB.out hb)
    clear hb
    go_wp2
    go_ret
    exact ⟨rfl, HB.out⟩
end Go.Proofs.YtjfdmdmlgdgchaaDoor
end
