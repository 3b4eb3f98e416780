import Derived.Test.YtogpdpjheknkjadG5
namespace Go.Proofs.Ytogpdpjheknkjad
open Go.RowKit
set_option linter.unusedVariables false
set_option maxHeartbeats 2000000
attribute [local go_sem] givesUpon_value givesUpon_skip givesUpon_enter
theorem gives_gen {P : Program} {K : Value → World → Prop} {r : Result Next} (h : ∀ K' : Value → World → Prop, (∀ v w', K v w' → K' v w') → givesUpon P K' r) : givesUpon P K r := h K fun _ _ h => h
theorem TL.sub {B : Nat} {S S' : List Nat} {k : Nat} {v : Value} {w : World} (h : TL B S k v w) (hs : ∀ x ∈ S', x ∈ S) : TL B S' k v w := by
  obtain ⟨g, e, h0, h1, h2, h3⟩ := h
  exact ⟨g, e, h0, fun hx => h1 (hs _ hx), h2, h3⟩
structure HP (B rb bx b0 : Nat) (A : Option Addr) (n c : Nat) (x y u v : Int) (m : Nat) (w : World) : Prop where
  rd : Rd B rb A n c m w
  hx : w.heap[bx]? = some (.cells #[.int .i64 x, .int .i64 y, .int .i64 u, .int .i64 v] 24 (0, 0))
  h0 : ∃ a0 a1 a2 a3 : Int, w.heap[b0]? = some (.cells #[.int .i64 a0, .int .i64 a1, .int .i64 a2, .int .i64 a3] 24 (0, 0))
  n1 : bx ≠ rb
  n2 : b0 ≠ rb
  n3 : bx ≠ b0
  l1 : B ≤ b0
section
variable {B rb bx b0 : Nat} {A : Option Addr} {n c : Nat} {x y u v : Int} {m : Nat} {w w' : World}
theorem HP.base (h : HP B rb bx b0 A n c x y u v m w) : B ≤ w.heap.size := by have := h.rd.lt; have := h.rd.base; omega
theorem HP.lts (h : HP B rb bx b0 A n c x y u v m w) : ∀ k ∈ [rb, b0], k < w.heap.size := by
  obtain ⟨a0, a1, a2, a3, ha⟩ := h.h0
  have h1 := h.rd.lt
  have h2 := lt_of_heap ha
  simp [h1, h2]
theorem HP.next (h : HP B rb bx b0 A n c x y u v m w) : HP B rb bx b0 A n c x y u v (m + 1) w := ⟨h.rd.mono (by omega), h.hx, h.h0, h.n1, h.n2, h.n3, h.l1⟩
theorem HP.drew (h : HP B rb bx b0 A n c x y u v m w) : HP B rb bx b0 A n c x y u v m w.drew := ⟨h.rd.drew, h.hx, h.h0, h.n1, h.n2, h.n3, h.l1⟩
theorem HP.alloc (h : HP B rb bx b0 A n c x y u v m w) (o : Obj) : HP B rb bx b0 A n c x y u v (m + 1) (w.alloc o) :=
  ⟨(h.rd.alloc o).mono (by omega), (Below.heap_alloc _ _ _ (lt_of_heap h.hx)).trans h.hx, let ⟨a0, a1, a2, a3, ha⟩ := h.h0; ⟨a0, a1, a2, a3, (Below.heap_alloc _ _ _ (lt_of_heap ha)).trans ha⟩, h.n1, h.n2, h.n3, h.l1⟩
theorem HP.call {m' : Nat} (h : HP B rb bx b0 A n c x y u v m w) (hr : Rd B rb A n c m' w') (hc : Chg [rb] w w') : HP B rb bx b0 A n c x y u v m' w' :=
  ⟨hr, (hc.block _ (lt_of_heap h.hx) (by simpa using h.n1)).trans h.hx, let ⟨a0, a1, a2, a3, ha⟩ := h.h0; ⟨a0, a1, a2, a3, (hc.block _ (lt_of_heap ha) (by simpa using h.n2)).trans ha⟩, h.n1, h.n2, h.n3, h.l1⟩
theorem HP.store0 (h : HP B rb bx b0 A n c x y u v m w) (z0 z1 z2 z3 : Int) : HP B rb bx b0 A n c x y u v (m + 1) ((((w.setCell ⟨b0, 0, none⟩ (.int .i64 z0)).setCell ⟨b0, 1, none⟩ (.int .i64 z1)).setCell ⟨b0, 2, none⟩ (.int .i64 z2)).setCell ⟨b0, 3, none⟩ (.int .i64 z3)) :=
  ⟨((((h.rd.setCell h.l1 h.n2 _).setCell h.l1 h.n2 _).setCell h.l1 h.n2 _).setCell h.l1 h.n2 _).mono (by omega), (put4o h.n3 _ _ _ _).trans h.hx, let ⟨a0, a1, a2, a3, ha⟩ := h.h0; ⟨_, _, _, _, put4h ha _ _ _ _⟩, h.n1, h.n2, h.n3, h.l1⟩
theorem HP.storeC0 (h : HP B rb bx b0 A n c x y u v m w) {z0 z1 z2 z3 : Value} : Chg [rb, b0] w ((((w.setCell ⟨b0, 0, none⟩ z0).setCell ⟨b0, 1, none⟩ z1).setCell ⟨b0, 2, none⟩ z2).setCell ⟨b0, 3, none⟩ z3) :=
  ((((Chg.refl _ _).setCell (.inl (by simp)) _).setCell (.inl (by simp)) _).setCell (.inl (by simp)) _).setCell (.inl (by simp)) _
end
def StT (S : List Nat) (T : Value → World → Prop) : Prop := ∀ v a b, T v a → Chg S a b → T v b
theorem st_TI (S : List Nat) : StT S TI := fun _ _ _ h _ => h
theorem st_TB (S : List Nat) : StT S TB := fun _ _ _ h _ => h
theorem st_TT0 (S : List Nat) : StT S TT0 := fun _ _ _ h _ => h
theorem st_TV (S : List Nat) (u : Value) : StT S (TV u) := fun _ _ _ h _ => h
theorem st_TRect (S : List Nat) : StT S TRect := fun _ _ _ h _ => h
theorem st_TL (B : Nat) (S : List Nat) (k : Nat) : StT S (TL B S k) := fun _ _ _ h hc => h.keep hc
theorem st_list {S : List Nat} : ∀ {l : List (Value → World → Prop)}, (∀ T ∈ l, StT S T) → ∀ (k : Nat) (v : Value) (a b : World), l.getD k TT0 v a → Chg S a b → l.getD k TT0 v b
  | [], _, k, v, a, b, h, hc => trivial
  | T :: r, hl, 0, v, a, b, h, hc => hl T List.mem_cons_self v a b h hc
  | T :: r, hl, k + 1, v, a, b, h, hc => st_list (l := r) (fun T hT => hl T (List.mem_cons_of_mem _ hT)) k v a b h hc
set_option maxRecDepth 100000 in
theorem DrawHasPoint_any (A : Option Addr) (n c : Nat) (w : World) (h : Bts w A n) (hn : n ≤ c) (hc : c ≤ maxLen) :
    Calls Try.prog 15 #[.slice A n c] w fun e w' => (∃ x y u v p q, e = .returned (.tuple #[.agg #[.int .i64 (x), .int .i64 (y), .int .i64 (u), .int .i64 (v)], .int .i64 p, .int .i64 q])) ∧ Below w.heap.size w w' := by
  go_enter Try.func15, Try.ntmps15
  go_wp2_with fail
  with_reducible refine (newReader_low A n c _ h (by simp) (h.alloc _) hn hc).mono ?_
  rintro e w1 ⟨n', rfl, hr1, hc1⟩
  simp only [World.size_alloc] at hr1
  go_wp2_with fail
  with_reducible refine (someRect_any _ hr1 (by omega)).mono ?_
  rintro e w2 ⟨⟨x, y, u, v, rfl⟩, hr2, hc2⟩
  have hs := hc1.size
  have hs2 := hc2.size
  simp only [World.size_alloc] at hs
  have Hc : Chg [w.heap.size + 1] _ w2 := (hc1.mono (by simp)).trans hc2
  have hb := (Hc.block w.heap.size (by simp) (by simp)).trans (heap_alloc_new w _)
  have hB : Chg [w.heap.size + 1, w.heap.size] w w2 := (((Chg.refl [w.heap.size + 1] w).alloc _).trans Hc).mono (by simp)
  have hl := hr2.lt
  have hlt2 : w.heap.size < w2.heap.size := by omega
  have hlt3 : w2.heap.size ≠ w.heap.size + 1 := by omega
  have hlt4 : w2.heap.size ≠ w.heap.size := by omega
  go_upto_region 3 with (fail)
  generalize hW : w2.alloc (.cells #[.int .i64 x, .int .i64 y, .int .i64 u, .int .i64 v] 24) = W at *
  have HI0 : HP w.heap.size (w.heap.size + 1) w2.heap.size w.heap.size A n' c x y u v (10 + 0) W.drew := by
    subst hW
    exact HP.drew ⟨(hr2.alloc _), heap_alloc_new _ _, ⟨0, 0, 0, 0, (Below.heap_alloc _ _ _ hlt2).trans hb⟩, hlt3, by omega, hlt4, Nat.le_refl _⟩
  have HB : Chg [w.heap.size + 1, w.heap.size] w W.drew := by
    subst hW
    exact (hB.alloc _).drew
  generalize hbx : w2.heap.size = bx at *
  generalize hrb : w.heap.size + 1 = rb at *
  generalize hb0 : w.heap.size = b0 at *
  have Hb0 := Lib.hid hb0
  have Hrb := Lib.hid hrb
  have Hn : bx ≠ b0 := hlt4
  clear hW hB hb Hc hc1 hc2 hr1 hr2 hs hs2 h hlt2 hlt3 hlt4 hl hbx hb0 hrb
  refine wp_region_rgl (fun k => (TV (.agg #[.int .i64 (x), .int .i64 (y), .int .i64 (u), .int .i64 (v)]) :: TV (.pointer (some ⟨rb, 0, none⟩)) :: TV (.pointer (some ⟨bx, 0, none⟩)) :: TI :: TV (.pointer (some ⟨bx, 0, none⟩)) :: TI :: TV (.pointer (some ⟨bx, 2, none⟩)) :: TI :: TI :: TV (.pointer (some ⟨bx, 0, none⟩)) :: TI :: TV (.pointer (some ⟨bx, 2, none⟩)) :: TI :: TI :: TI :: TV (.pointer (some ⟨bx, 0, none⟩)) :: TI :: TI :: TL b0 [rb, b0] 5 :: TI :: TV (.pointer (some ⟨rb, 0, none⟩)) :: TV (.pointer (some ⟨bx, 1, none⟩)) :: TI :: TV (.pointer (some ⟨bx, 1, none⟩)) :: TI :: TV (.pointer (some ⟨bx, 3, none⟩)) :: TI :: TI :: TI :: TV (.pointer (some ⟨bx, 1, none⟩)) :: TI :: TV (.pointer (some ⟨bx, 3, none⟩)) :: TI :: TI :: TL b0 [rb, b0] 4 :: TI :: TT0 :: TI :: TI :: [] : List (Value → World → Prop)).getD k TT0) (Chg [rb, b0]) (fun m w => HP b0 rb bx b0 A n' c x y u v (10 + m) w) (by kernel_rfl) (by kernel_rfl) (fun a => Chg.refl _ a) (fun _ _ _ h k => h.trans k) ?hTs ?hI0 ?hops ?hfin
  case hI0 => exact HI0
  case hops =>
    refine ⟨opOK_ds [(6, none)] (by kernel_rfl) rfl ?_, ?_⟩
    · intro m a w hm hR hI h1
      have hk : ∀ v, a.eval (.const v) = v := fun _ => rfl
      have hf : ∀ f, a.eval (.func f) = .func (.func f) #[] #[] := fun _ => rfl
      generalize a.eval = ρ at *
      have hm : m < 39 := hm
      obtain ⟨c0, c1, c2, c3, -⟩ := b4 hI.hx
      replace h1 : ρ (.tmp 6) = .pointer (some ⟨bx, 0, none⟩) := h1
      refine gives_gen (fun K hK => ?_)
      go_simp
      exact hK _ _ ⟨rfl, Chg.refl _ _, hI.next⟩
    refine ⟨opOK_ds [(5, none)] (by kernel_rfl) rfl ?_, ?_⟩
    · intro m a w hm hR hI h1
      have hk : ∀ v, a.eval (.const v) = v := fun _ => rfl
      have hf : ∀ f, a.eval (.func f) = .func (.func f) #[] #[] := fun _ => rfl
      generalize a.eval = ρ at *
      have hm : m < 39 := hm
      replace h1 : ρ (.tmp 5) = .pointer (some ⟨rb, 0, none⟩) := h1
      refine gives_gen (fun K hK => ?_)
      go_simp
      exact hK _ _ ⟨rfl, Chg.refl _ _, hI.next⟩
    refine ⟨opOK_ds [(6, none)] (by kernel_rfl) rfl ?_, ?_⟩
    · intro m a w hm hR hI h1
      have hk : ∀ v, a.eval (.const v) = v := fun _ => rfl
      have hf : ∀ f, a.eval (.func f) = .func (.func f) #[] #[] := fun _ => rfl
      generalize a.eval = ρ at *
      have hm : m < 39 := hm
      replace h1 : ρ (.tmp 6) = .pointer (some ⟨bx, 0, none⟩) := h1
      refine gives_gen (fun K hK => ?_)
      go_simp
      exact hK _ _ ⟨rfl, Chg.refl _ _, hI.next⟩
    refine ⟨opOK_ds [(13, some 2)] (by kernel_rfl) rfl ?_, ?_⟩
    · intro m a w hm hR hI h1
      have hk : ∀ v, a.eval (.const v) = v := fun _ => rfl
      have hf : ∀ f, a.eval (.func f) = .func (.func f) #[] #[] := fun _ => rfl
      generalize a.eval = ρ at *
      have hm : m < 39 := hm
      obtain ⟨c0, c1, c2, c3, -⟩ := b4 hI.hx
      replace h1 : ρ (.tmp 13) = .pointer (some ⟨bx, 0, none⟩) := h1
      refine gives_gen (fun K hK => ?_)
      go_simp
      exact hK _ _ ⟨⟨_, rfl⟩, Chg.refl _ _, hI.next⟩
    refine ⟨opOK_ds [(6, none)] (by kernel_rfl) rfl ?_, ?_⟩
    · intro m a w hm hR hI h1
      have hk : ∀ v, a.eval (.const v) = v := fun _ => rfl
      have hf : ∀ f, a.eval (.func f) = .func (.func f) #[] #[] := fun _ => rfl
      generalize a.eval = ρ at *
      have hm : m < 39 := hm
      replace h1 : ρ (.tmp 6) = .pointer (some ⟨bx, 0, none⟩) := h1
      refine gives_gen (fun K hK => ?_)
      go_simp
      exact hK _ _ ⟨rfl, Chg.refl _ _, hI.next⟩
    refine ⟨opOK_ds [(15, some 4)] (by kernel_rfl) rfl ?_, ?_⟩
    · intro m a w hm hR hI h1
      have hk : ∀ v, a.eval (.const v) = v := fun _ => rfl
      have hf : ∀ f, a.eval (.func f) = .func (.func f) #[] #[] := fun _ => rfl
      generalize a.eval = ρ at *
      have hm : m < 39 := hm
      obtain ⟨c0, c1, c2, c3, -⟩ := b4 hI.hx
      replace h1 : ρ (.tmp 15) = .pointer (some ⟨bx, 0, none⟩) := h1
      refine gives_gen (fun K hK => ?_)
      go_simp
      exact hK _ _ ⟨⟨_, rfl⟩, Chg.refl _ _, hI.next⟩
    refine ⟨opOK_ds [(6, none)] (by kernel_rfl) rfl ?_, ?_⟩
    · intro m a w hm hR hI h1
      have hk : ∀ v, a.eval (.const v) = v := fun _ => rfl
      have hf : ∀ f, a.eval (.func f) = .func (.func f) #[] #[] := fun _ => rfl
      generalize a.eval = ρ at *
      have hm : m < 39 := hm
      replace h1 : ρ (.tmp 6) = .pointer (some ⟨bx, 0, none⟩) := h1
      refine gives_gen (fun K hK => ?_)
      go_simp
      exact hK _ _ ⟨rfl, Chg.refl _ _, hI.next⟩
    refine ⟨opOK_ds [(17, some 6)] (by kernel_rfl) rfl ?_, ?_⟩
    · intro m a w hm hR hI h1
      have hk : ∀ v, a.eval (.const v) = v := fun _ => rfl
      have hf : ∀ f, a.eval (.func f) = .func (.func f) #[] #[] := fun _ => rfl
      generalize a.eval = ρ at *
      have hm : m < 39 := hm
      obtain ⟨c0, c1, c2, c3, -⟩ := b4 hI.hx
      replace h1 : ρ (.tmp 17) = .pointer (some ⟨bx, 2, none⟩) := h1
      refine gives_gen (fun K hK => ?_)
      go_simp
      exact hK _ _ ⟨⟨_, rfl⟩, Chg.refl _ _, hI.next⟩
    refine ⟨opOK_ds [(16, some 5), (18, some 7)] (by kernel_rfl) rfl ?_, ?_⟩
    · intro m a w hm hR hI h1 h2
      have hk : ∀ v, a.eval (.const v) = v := fun _ => rfl
      have hf : ∀ f, a.eval (.func f) = .func (.func f) #[] #[] := fun _ => rfl
      generalize a.eval = ρ at *
      have hm : m < 39 := hm
      obtain ⟨z1, h1⟩ : TI (ρ (.tmp 16)) w := h1
      obtain ⟨z2, h2⟩ : TI (ρ (.tmp 18)) w := h2
      refine gives_gen (fun K hK => ?_)
      go_simp
      exact hK _ _ ⟨⟨_, rfl⟩, Chg.refl _ _, hI.next⟩
    refine ⟨opOK_ds [(6, none)] (by kernel_rfl) rfl ?_, ?_⟩
    · intro m a w hm hR hI h1
      have hk : ∀ v, a.eval (.const v) = v := fun _ => rfl
      have hf : ∀ f, a.eval (.func f) = .func (.func f) #[] #[] := fun _ => rfl
      generalize a.eval = ρ at *
      have hm : m < 39 := hm
      replace h1 : ρ (.tmp 6) = .pointer (some ⟨bx, 0, none⟩) := h1
      refine gives_gen (fun K hK => ?_)
      go_simp
      exact hK _ _ ⟨rfl, Chg.refl _ _, hI.next⟩
    refine ⟨opOK_ds [(20, some 9)] (by kernel_rfl) rfl ?_, ?_⟩
    · intro m a w hm hR hI h1
      have hk : ∀ v, a.eval (.const v) = v := fun _ => rfl
      have hf : ∀ f, a.eval (.func f) = .func (.func f) #[] #[] := fun _ => rfl
      generalize a.eval = ρ at *
      have hm : m < 39 := hm
      obtain ⟨c0, c1, c2, c3, -⟩ := b4 hI.hx
      replace h1 : ρ (.tmp 20) = .pointer (some ⟨bx, 0, none⟩) := h1
      refine gives_gen (fun K hK => ?_)
      go_simp
      exact hK _ _ ⟨⟨_, rfl⟩, Chg.refl _ _, hI.next⟩
    refine ⟨opOK_ds [(6, none)] (by kernel_rfl) rfl ?_, ?_⟩
    · intro m a w hm hR hI h1
      have hk : ∀ v, a.eval (.const v) = v := fun _ => rfl
      have hf : ∀ f, a.eval (.func f) = .func (.func f) #[] #[] := fun _ => rfl
      generalize a.eval = ρ at *
      have hm : m < 39 := hm
      replace h1 : ρ (.tmp 6) = .pointer (some ⟨bx, 0, none⟩) := h1
      refine gives_gen (fun K hK => ?_)
      go_simp
      exact hK _ _ ⟨rfl, Chg.refl _ _, hI.next⟩
    refine ⟨opOK_ds [(22, some 11)] (by kernel_rfl) rfl ?_, ?_⟩
    · intro m a w hm hR hI h1
      have hk : ∀ v, a.eval (.const v) = v := fun _ => rfl
      have hf : ∀ f, a.eval (.func f) = .func (.func f) #[] #[] := fun _ => rfl
      generalize a.eval = ρ at *
      have hm : m < 39 := hm
      obtain ⟨c0, c1, c2, c3, -⟩ := b4 hI.hx
      replace h1 : ρ (.tmp 22) = .pointer (some ⟨bx, 2, none⟩) := h1
      refine gives_gen (fun K hK => ?_)
      go_simp
      exact hK _ _ ⟨⟨_, rfl⟩, Chg.refl _ _, hI.next⟩
    refine ⟨opOK_ds [(21, some 10), (23, some 12)] (by kernel_rfl) rfl ?_, ?_⟩
    · intro m a w hm hR hI h1 h2
      have hk : ∀ v, a.eval (.const v) = v := fun _ => rfl
      have hf : ∀ f, a.eval (.func f) = .func (.func f) #[] #[] := fun _ => rfl
      generalize a.eval = ρ at *
      have hm : m < 39 := hm
      obtain ⟨z1, h1⟩ : TI (ρ (.tmp 21)) w := h1
      obtain ⟨z2, h2⟩ : TI (ρ (.tmp 23)) w := h2
      refine gives_gen (fun K hK => ?_)
      go_simp
      exact hK _ _ ⟨⟨_, rfl⟩, Chg.refl _ _, hI.next⟩
    refine ⟨opOK_ds [(24, some 13)] (by kernel_rfl) rfl ?_, ?_⟩
    · intro m a w hm hR hI h1
      have hk : ∀ v, a.eval (.const v) = v := fun _ => rfl
      have hf : ∀ f, a.eval (.func f) = .func (.func f) #[] #[] := fun _ => rfl
      generalize a.eval = ρ at *
      have hm : m < 39 := hm
      obtain ⟨z1, h1⟩ : TI (ρ (.tmp 24)) w := h1
      refine gives_gen (fun K hK => ?_)
      go_simp
      exact hK _ _ ⟨⟨_, rfl⟩, Chg.refl _ _, hI.next⟩
    refine ⟨opOK_ds [(6, none)] (by kernel_rfl) rfl ?_, ?_⟩
    · intro m a w hm hR hI h1
      have hk : ∀ v, a.eval (.const v) = v := fun _ => rfl
      have hf : ∀ f, a.eval (.func f) = .func (.func f) #[] #[] := fun _ => rfl
      generalize a.eval = ρ at *
      have hm : m < 39 := hm
      replace h1 : ρ (.tmp 6) = .pointer (some ⟨bx, 0, none⟩) := h1
      refine gives_gen (fun K hK => ?_)
      go_simp
      exact hK _ _ ⟨rfl, Chg.refl _ _, hI.next⟩
    refine ⟨opOK_ds [(26, some 15)] (by kernel_rfl) rfl ?_, ?_⟩
    · intro m a w hm hR hI h1
      have hk : ∀ v, a.eval (.const v) = v := fun _ => rfl
      have hf : ∀ f, a.eval (.func f) = .func (.func f) #[] #[] := fun _ => rfl
      generalize a.eval = ρ at *
      have hm : m < 39 := hm
      obtain ⟨c0, c1, c2, c3, -⟩ := b4 hI.hx
      replace h1 : ρ (.tmp 26) = .pointer (some ⟨bx, 0, none⟩) := h1
      refine gives_gen (fun K hK => ?_)
      go_simp
      exact hK _ _ ⟨⟨_, rfl⟩, Chg.refl _ _, hI.next⟩
    refine ⟨opOK_ds [(27, some 16)] (by kernel_rfl) rfl ?_, ?_⟩
    · intro m a w hm hR hI h1
      have hk : ∀ v, a.eval (.const v) = v := fun _ => rfl
      have hf : ∀ f, a.eval (.func f) = .func (.func f) #[] #[] := fun _ => rfl
      generalize a.eval = ρ at *
      have hm : m < 39 := hm
      obtain ⟨z1, h1⟩ : TI (ρ (.tmp 27)) w := h1
      refine gives_gen (fun K hK => ?_)
      go_simp
      exact hK _ _ ⟨⟨_, rfl⟩, Chg.refl _ _, hI.next⟩
    refine ⟨opOK_ds [(14, some 3), (19, some 8), (25, some 14), (28, some 17)] (by kernel_rfl) rfl ?_, ?_⟩
    · intro m a w hm hR hI h1 h2 h3 h4
      have hk : ∀ v, a.eval (.const v) = v := fun _ => rfl
      have hf : ∀ f, a.eval (.func f) = .func (.func f) #[] #[] := fun _ => rfl
      generalize a.eval = ρ at *
      have hm : m < 39 := hm
      obtain ⟨z1, h1⟩ : TI (ρ (.tmp 14)) w := h1
      obtain ⟨z2, h2⟩ : TI (ρ (.tmp 19)) w := h2
      obtain ⟨z3, h3⟩ : TI (ρ (.tmp 25)) w := h3
      obtain ⟨z4, h4⟩ : TI (ρ (.tmp 28)) w := h4
      refine gives_gen (fun K hK => ?_)
      go_simp
      exact hK _ _ ⟨TL.lit hI.base hI.lts (by simp) (by simp [isI]), (Chg.refl _ _).alloc _, hI.alloc _⟩
    refine ⟨opOK_ds [(12, some 1), (29, some 18)] (by kernel_rfl) rfl ?_, ?_⟩
    · intro m a w hm hR hI h1 h2
      have hk : ∀ v, a.eval (.const v) = v := fun _ => rfl
      have hf : ∀ f, a.eval (.func f) = .func (.func f) #[] #[] := fun _ => rfl
      generalize a.eval = ρ at *
      have hm : m < 39 := hm
      replace h1 : ρ (.tmp 12) = .pointer (some ⟨rb, 0, none⟩) := h1
      replace h2 : TL b0 [rb, b0] 5 (ρ (.tmp 29)) w := h2
      refine gives_gen (fun K hK => ?_)
      go_simp
      with_reducible refine (one_any _ hI.rd (by omega) (h2.sub (by simp)) (by omega) (by omega)).mono ?_
      rintro e w1 ⟨⟨z, rfl⟩, hr, hc⟩
      exact ⟨_, rfl, hK _ _ ⟨⟨z, rfl⟩, hc.mono (by simp), hI.call hr hc⟩⟩
    refine ⟨opOK_ds [(5, none)] (by kernel_rfl) rfl ?_, ?_⟩
    · intro m a w hm hR hI h1
      have hk : ∀ v, a.eval (.const v) = v := fun _ => rfl
      have hf : ∀ f, a.eval (.func f) = .func (.func f) #[] #[] := fun _ => rfl
      generalize a.eval = ρ at *
      have hm : m < 39 := hm
      replace h1 : ρ (.tmp 5) = .pointer (some ⟨rb, 0, none⟩) := h1
      refine gives_gen (fun K hK => ?_)
      go_simp
      exact hK _ _ ⟨rfl, Chg.refl _ _, hI.next⟩
    refine ⟨opOK_ds [(6, none)] (by kernel_rfl) rfl ?_, ?_⟩
    · intro m a w hm hR hI h1
      have hk : ∀ v, a.eval (.const v) = v := fun _ => rfl
      have hf : ∀ f, a.eval (.func f) = .func (.func f) #[] #[] := fun _ => rfl
      generalize a.eval = ρ at *
      have hm : m < 39 := hm
      replace h1 : ρ (.tmp 6) = .pointer (some ⟨bx, 0, none⟩) := h1
      refine gives_gen (fun K hK => ?_)
      go_simp
      exact hK _ _ ⟨rfl, Chg.refl _ _, hI.next⟩
    refine ⟨opOK_ds [(32, some 21)] (by kernel_rfl) rfl ?_, ?_⟩
    · intro m a w hm hR hI h1
      have hk : ∀ v, a.eval (.const v) = v := fun _ => rfl
      have hf : ∀ f, a.eval (.func f) = .func (.func f) #[] #[] := fun _ => rfl
      generalize a.eval = ρ at *
      have hm : m < 39 := hm
      obtain ⟨c0, c1, c2, c3, -⟩ := b4 hI.hx
      replace h1 : ρ (.tmp 32) = .pointer (some ⟨bx, 1, none⟩) := h1
      refine gives_gen (fun K hK => ?_)
      go_simp
      exact hK _ _ ⟨⟨_, rfl⟩, Chg.refl _ _, hI.next⟩
    refine ⟨opOK_ds [(6, none)] (by kernel_rfl) rfl ?_, ?_⟩
    · intro m a w hm hR hI h1
      have hk : ∀ v, a.eval (.const v) = v := fun _ => rfl
      have hf : ∀ f, a.eval (.func f) = .func (.func f) #[] #[] := fun _ => rfl
      generalize a.eval = ρ at *
      have hm : m < 39 := hm
      replace h1 : ρ (.tmp 6) = .pointer (some ⟨bx, 0, none⟩) := h1
      refine gives_gen (fun K hK => ?_)
      go_simp
      exact hK _ _ ⟨rfl, Chg.refl _ _, hI.next⟩
    refine ⟨opOK_ds [(34, some 23)] (by kernel_rfl) rfl ?_, ?_⟩
    · intro m a w hm hR hI h1
      have hk : ∀ v, a.eval (.const v) = v := fun _ => rfl
      have hf : ∀ f, a.eval (.func f) = .func (.func f) #[] #[] := fun _ => rfl
      generalize a.eval = ρ at *
      have hm : m < 39 := hm
      obtain ⟨c0, c1, c2, c3, -⟩ := b4 hI.hx
      replace h1 : ρ (.tmp 34) = .pointer (some ⟨bx, 1, none⟩) := h1
      refine gives_gen (fun K hK => ?_)
      go_simp
      exact hK _ _ ⟨⟨_, rfl⟩, Chg.refl _ _, hI.next⟩
    refine ⟨opOK_ds [(6, none)] (by kernel_rfl) rfl ?_, ?_⟩
    · intro m a w hm hR hI h1
      have hk : ∀ v, a.eval (.const v) = v := fun _ => rfl
      have hf : ∀ f, a.eval (.func f) = .func (.func f) #[] #[] := fun _ => rfl
      generalize a.eval = ρ at *
      have hm : m < 39 := hm
      replace h1 : ρ (.tmp 6) = .pointer (some ⟨bx, 0, none⟩) := h1
      refine gives_gen (fun K hK => ?_)
      go_simp
      exact hK _ _ ⟨rfl, Chg.refl _ _, hI.next⟩
    refine ⟨opOK_ds [(36, some 25)] (by kernel_rfl) rfl ?_, ?_⟩
    · intro m a w hm hR hI h1
      have hk : ∀ v, a.eval (.const v) = v := fun _ => rfl
      have hf : ∀ f, a.eval (.func f) = .func (.func f) #[] #[] := fun _ => rfl
      generalize a.eval = ρ at *
      have hm : m < 39 := hm
      obtain ⟨c0, c1, c2, c3, -⟩ := b4 hI.hx
      replace h1 : ρ (.tmp 36) = .pointer (some ⟨bx, 3, none⟩) := h1
      refine gives_gen (fun K hK => ?_)
      go_simp
      exact hK _ _ ⟨⟨_, rfl⟩, Chg.refl _ _, hI.next⟩
    refine ⟨opOK_ds [(35, some 24), (37, some 26)] (by kernel_rfl) rfl ?_, ?_⟩
    · intro m a w hm hR hI h1 h2
      have hk : ∀ v, a.eval (.const v) = v := fun _ => rfl
      have hf : ∀ f, a.eval (.func f) = .func (.func f) #[] #[] := fun _ => rfl
      generalize a.eval = ρ at *
      have hm : m < 39 := hm
      obtain ⟨z1, h1⟩ : TI (ρ (.tmp 35)) w := h1
      obtain ⟨z2, h2⟩ : TI (ρ (.tmp 37)) w := h2
      refine gives_gen (fun K hK => ?_)
      go_simp
      exact hK _ _ ⟨⟨_, rfl⟩, Chg.refl _ _, hI.next⟩
    refine ⟨opOK_ds [(38, some 27)] (by kernel_rfl) rfl ?_, ?_⟩
    · intro m a w hm hR hI h1
      have hk : ∀ v, a.eval (.const v) = v := fun _ => rfl
      have hf : ∀ f, a.eval (.func f) = .func (.func f) #[] #[] := fun _ => rfl
      generalize a.eval = ρ at *
      have hm : m < 39 := hm
      obtain ⟨z1, h1⟩ : TI (ρ (.tmp 38)) w := h1
      refine gives_gen (fun K hK => ?_)
      go_simp
      exact hK _ _ ⟨⟨_, rfl⟩, Chg.refl _ _, hI.next⟩
    refine ⟨opOK_ds [(6, none)] (by kernel_rfl) rfl ?_, ?_⟩
    · intro m a w hm hR hI h1
      have hk : ∀ v, a.eval (.const v) = v := fun _ => rfl
      have hf : ∀ f, a.eval (.func f) = .func (.func f) #[] #[] := fun _ => rfl
      generalize a.eval = ρ at *
      have hm : m < 39 := hm
      replace h1 : ρ (.tmp 6) = .pointer (some ⟨bx, 0, none⟩) := h1
      refine gives_gen (fun K hK => ?_)
      go_simp
      exact hK _ _ ⟨rfl, Chg.refl _ _, hI.next⟩
    refine ⟨opOK_ds [(40, some 29)] (by kernel_rfl) rfl ?_, ?_⟩
    · intro m a w hm hR hI h1
      have hk : ∀ v, a.eval (.const v) = v := fun _ => rfl
      have hf : ∀ f, a.eval (.func f) = .func (.func f) #[] #[] := fun _ => rfl
      generalize a.eval = ρ at *
      have hm : m < 39 := hm
      obtain ⟨c0, c1, c2, c3, -⟩ := b4 hI.hx
      replace h1 : ρ (.tmp 40) = .pointer (some ⟨bx, 1, none⟩) := h1
      refine gives_gen (fun K hK => ?_)
      go_simp
      exact hK _ _ ⟨⟨_, rfl⟩, Chg.refl _ _, hI.next⟩
    refine ⟨opOK_ds [(6, none)] (by kernel_rfl) rfl ?_, ?_⟩
    · intro m a w hm hR hI h1
      have hk : ∀ v, a.eval (.const v) = v := fun _ => rfl
      have hf : ∀ f, a.eval (.func f) = .func (.func f) #[] #[] := fun _ => rfl
      generalize a.eval = ρ at *
      have hm : m < 39 := hm
      replace h1 : ρ (.tmp 6) = .pointer (some ⟨bx, 0, none⟩) := h1
      refine gives_gen (fun K hK => ?_)
      go_simp
      exact hK _ _ ⟨rfl, Chg.refl _ _, hI.next⟩
    refine ⟨opOK_ds [(42, some 31)] (by kernel_rfl) rfl ?_, ?_⟩
    · intro m a w hm hR hI h1
      have hk : ∀ v, a.eval (.const v) = v := fun _ => rfl
      have hf : ∀ f, a.eval (.func f) = .func (.func f) #[] #[] := fun _ => rfl
      generalize a.eval = ρ at *
      have hm : m < 39 := hm
      obtain ⟨c0, c1, c2, c3, -⟩ := b4 hI.hx
      replace h1 : ρ (.tmp 42) = .pointer (some ⟨bx, 3, none⟩) := h1
      refine gives_gen (fun K hK => ?_)
      go_simp
      exact hK _ _ ⟨⟨_, rfl⟩, Chg.refl _ _, hI.next⟩
    refine ⟨opOK_ds [(41, some 30), (43, some 32)] (by kernel_rfl) rfl ?_, ?_⟩
    · intro m a w hm hR hI h1 h2
      have hk : ∀ v, a.eval (.const v) = v := fun _ => rfl
      have hf : ∀ f, a.eval (.func f) = .func (.func f) #[] #[] := fun _ => rfl
      generalize a.eval = ρ at *
      have hm : m < 39 := hm
      obtain ⟨z1, h1⟩ : TI (ρ (.tmp 41)) w := h1
      obtain ⟨z2, h2⟩ : TI (ρ (.tmp 43)) w := h2
      refine gives_gen (fun K hK => ?_)
      go_simp
      exact hK _ _ ⟨⟨_, rfl⟩, Chg.refl _ _, hI.next⟩
    refine ⟨opOK_ds [(33, some 22), (39, some 28), (44, some 33)] (by kernel_rfl) rfl ?_, ?_⟩
    · intro m a w hm hR hI h1 h2 h3
      have hk : ∀ v, a.eval (.const v) = v := fun _ => rfl
      have hf : ∀ f, a.eval (.func f) = .func (.func f) #[] #[] := fun _ => rfl
      generalize a.eval = ρ at *
      have hm : m < 39 := hm
      obtain ⟨z1, h1⟩ : TI (ρ (.tmp 33)) w := h1
      obtain ⟨z2, h2⟩ : TI (ρ (.tmp 39)) w := h2
      obtain ⟨z3, h3⟩ : TI (ρ (.tmp 44)) w := h3
      refine gives_gen (fun K hK => ?_)
      go_simp
      exact hK _ _ ⟨TL.lit hI.base hI.lts (by simp) (by simp [isI]), (Chg.refl _ _).alloc _, hI.alloc _⟩
    refine ⟨opOK_ds [(31, some 20), (45, some 34)] (by kernel_rfl) rfl ?_, ?_⟩
    · intro m a w hm hR hI h1 h2
      have hk : ∀ v, a.eval (.const v) = v := fun _ => rfl
      have hf : ∀ f, a.eval (.func f) = .func (.func f) #[] #[] := fun _ => rfl
      generalize a.eval = ρ at *
      have hm : m < 39 := hm
      replace h1 : ρ (.tmp 31) = .pointer (some ⟨rb, 0, none⟩) := h1
      replace h2 : TL b0 [rb, b0] 4 (ρ (.tmp 45)) w := h2
      refine gives_gen (fun K hK => ?_)
      go_simp
      with_reducible refine (one_any _ hI.rd (by omega) (h2.sub (by simp)) (by omega) (by omega)).mono ?_
      rintro e w1 ⟨⟨z, rfl⟩, hr, hc⟩
      exact ⟨_, rfl, hK _ _ ⟨⟨z, rfl⟩, hc.mono (by simp), hI.call hr hc⟩⟩
    refine ⟨opOK_ds [(2, none), (11, some 0)] (by kernel_rfl) rfl ?_, ?_⟩
    · intro m a w hm hR hI h1 h2
      have hk : ∀ v, a.eval (.const v) = v := fun _ => rfl
      have hf : ∀ f, a.eval (.func f) = .func (.func f) #[] #[] := fun _ => rfl
      generalize a.eval = ρ at *
      have hm : m < 39 := hm
      obtain ⟨a0, a1, a2, a3, ha⟩ := hI.h0
      obtain ⟨c0, c1, c2, c3, f0, f1, f2, f3⟩ := b4 ha
      replace h1 : ρ (.tmp 2) = .pointer (some ⟨b0, 0, none⟩) := h1
      replace h2 : ρ (.tmp 11) = .agg #[.int .i64 (x), .int .i64 (y), .int .i64 (u), .int .i64 (v)] := h2
      refine gives_gen (fun K hK => ?_)
      go_simp
      exact hK _ _ ⟨trivial, hI.storeC0, hI.store0 _ _ _ _⟩
    refine ⟨opOK_ds [(30, some 19)] (by kernel_rfl) rfl ?_, ?_⟩
    · intro m a w hm hR hI h1
      have hk : ∀ v, a.eval (.const v) = v := fun _ => rfl
      have hf : ∀ f, a.eval (.func f) = .func (.func f) #[] #[] := fun _ => rfl
      generalize a.eval = ρ at *
      have hm : m < 39 := hm
      obtain ⟨z1, h1⟩ : TI (ρ (.tmp 30)) w := h1
      refine gives_gen (fun K hK => ?_)
      go_simp
      exact hK _ _ ⟨⟨_, rfl⟩, Chg.refl _ _, hI.next⟩
    refine ⟨opOK_ds [(46, some 35)] (by kernel_rfl) rfl ?_, ?_⟩
    · intro m a w hm hR hI h1
      have hk : ∀ v, a.eval (.const v) = v := fun _ => rfl
      have hf : ∀ f, a.eval (.func f) = .func (.func f) #[] #[] := fun _ => rfl
      generalize a.eval = ρ at *
      have hm : m < 39 := hm
      obtain ⟨z1, h1⟩ : TI (ρ (.tmp 46)) w := h1
      refine gives_gen (fun K hK => ?_)
      go_simp
      exact hK _ _ ⟨⟨_, rfl⟩, Chg.refl _ _, hI.next⟩
    exact trivial
  case hTs => exact st_list (by
    intro T hT
    simp only [List.mem_cons, List.not_mem_nil, or_false] at hT
    rcases hT with rfl | rfl | rfl | rfl | rfl | rfl | rfl | rfl | rfl | rfl | rfl | rfl | rfl | rfl | rfl | rfl | rfl | rfl | rfl | rfl | rfl | rfl | rfl | rfl | rfl | rfl | rfl | rfl | rfl | rfl | rfl | rfl | rfl | rfl | rfl | rfl | rfl | rfl | rfl <;> first | exact st_TI _ | exact st_TV _ _ | exact st_TRect _ | exact st_TL _ _ _ | exact st_TT0 _)
  case hfin =>
    intro w3 hR hI
    intro v11 t11 v12 t12 v13 t13 v14 t14 v15 t15 v16 t16 v17 t17 v18 t18 v19 t19 v20 t20 v21 t21 v22 t22 v23 t23 v24 t24 v25 t25 v26 t26 v27 t27 v28 t28 v29 t29 v30 t30 v31 t31 v32 t32 v33 t33 v34 t34 v35 t35 v36 t36 v37 t37 v38 t38 v39 t39 v40 t40 v41 t41 v42 t42 v43 t43 v44 t44 v45 t45 v46 t46 v3 t3 v4 t4
    obtain ⟨p, rfl⟩ : ∃ p, v3 = .int .i64 p := t3
    obtain ⟨q, rfl⟩ : ∃ q, v4 = .int .i64 q := t4
    obtain ⟨a0, a1, a2, a3, ha⟩ := hI.h0
    have HBB := Lib.hid (HB.trans hR)
    obtain ⟨c0, c1, c2, c3, f0, f1, f2, f3⟩ := b4 ha
    clear ha hI hR HB
    clear t11 t12 t13 t14 t15 t16 t17 t18 t19 t20 t21 t22 t23 t24 t25 t26 t27 t28 t29 t30 t31 t32 t33 t34 t35 t36 t37 t38 t39 t40 t41 t42 t43 t44 t45 t46
    simp only [finP, Act.put, List.setIfInBounds_toArray, List.set_cons_succ, List.set_cons_zero]
    go_wp2
    exact bodyPost_ret (v := .tuple #[.agg #[.int .i64 (a0), .int .i64 (a1), .int .i64 (a2), .int .i64 (a3)], .int .i64 p, .int .i64 q]) (by simp only [results, Try.results15]; go_simp) rfl ⟨⟨_, _, _, _, _, _, rfl⟩, HBB.out.below (Nat.le_refl _) (by have := Hrb.out; have := Hb0.out; simp; omega)⟩
end Go.Proofs.Ytogpdpjheknkjad
