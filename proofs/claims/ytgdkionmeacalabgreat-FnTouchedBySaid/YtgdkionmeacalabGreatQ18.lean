import Derived.Test.YtgdkionmeacalabGreatQ17
section
namespace Go.Proofs.YtgdkionmeacalabGreat
open Go.RowKit
set_option linter.unusedVariables false
set_option maxHeartbeats 2000000
def kidB (L : List Nd) (i : Int) (k : Nat) : Bool := match L[k]? with
  | some n => n.pa == i
  | none => false
def kidD (L : List Nd) (i : Nat) : List Nat := idsN (kidB L (i : Int)) L.length
theorem isKid_eq (R : List Nr) (i : Int) (k : Nat) : isKid R i k = kidB (R.map Nr.n) i k := by
  unfold isKid kidB
  rw [List.getElem?_map]
  cases R[k]? <;> rfl
theorem kidsN_eq (R : List Nr) (i : Nat) : kidsN R (i : Int) = kidD (R.map Nr.n) i := by
  unfold kidsN kidD
  rw [show isKid R (i : Int) = kidB (R.map Nr.n) (i : Int) from funext fun k => isKid_eq R _ k, List.length_map]
theorem kidsM_eq (R : List Nr) (i : Nat) : kidsM R (i : Int) = (kidD (R.map Nr.n) i).map fun (k : Nat) => (k : Int) := by
  show (kidsN R (i : Int)).map _ = _
  rw [kidsN_eq]
theorem kidD_lt {L : List Nd} {i k : Nat} (h : k ∈ kidD L i) : k < L.length := idsN_lt k h
theorem kidD_pa {L : List Nd} {i k : Nat} {n : Nd} (h : k ∈ kidD L i) (hn : L[k]? = some n) : n.pa = (i : Int) := by
  have := (List.mem_filter.1 h).2
  unfold kidB at this
  rw [hn] at this
  simpa using this
theorem kidD_len (L : List Nd) (i : Nat) : (kidD L i).length ≤ L.length := by
  unfold kidD idsN
  exact Nat.le_trans (List.length_filter_le _ _) (by simp)
def pkOf (m : Nd) (q : Int × Int) : Pk := { m.pk with w := q.1, h := q.2 }
def ceOf (m : Nd) (q : Int × Int) : Ce := { m.ce with cw := q.1, ch := q.2 }
def pksF (L : List Nd) (f : Nat → Int × Int) (ks : List Nat) : List Pk := ks.filterMap fun k => (L[k]?).map fun m => pkOf m (f k)
def cesF (L : List Nd) (f : Nat → Int × Int) (ks : List Nat) : List Ce := ks.filterMap fun k => (L[k]?).map fun m => ceOf m (f k)
/-- what a node asks for, if its kids ask for so much -/
def askN (L : List Nd) (f : Nat → Int × Int) (i : Nat) (n : Nd) : Int × Int :=
  if n.ke = true ∨ kidD L i = [] ∨ n.ki = 2 then (n.ww, n.hh)
  else if n.ki = 0 then reqM (pksF L f (kidD L i)) else gridM n.cs n.rs (cesF L f (kidD L i))
def szF (L : List Nd) : Nat → Nat → Int × Int
  | 0, _ => (0, 0)
  | f + 1, i => match L[i]? with
    | none => (0, 0)
    | some n => askN L (szF L f) i n
def szM (L : List Nd) (i : Nat) : Int × Int := szF L L.length i
theorem filterMap_congr' {α β : Type} {f g : α → Option β} {l : List α} (h : ∀ x ∈ l, f x = g x) : l.filterMap f = l.filterMap g := by
  induction l with
  | nil => rfl
  | cons a t ih =>
    simp only [List.filterMap_cons, h a List.mem_cons_self]
    rw [ih (fun x hx => h x (List.mem_cons_of_mem _ hx))]
theorem pksF_congr {L : List Nd} {f g : Nat → Int × Int} {ks : List Nat} (h : ∀ k ∈ ks, f k = g k) : pksF L f ks = pksF L g ks := filterMap_congr' fun k hk => by rw [h k hk]
theorem cesF_congr {L : List Nd} {f g : Nat → Int × Int} {ks : List Nat} (h : ∀ k ∈ ks, f k = g k) : cesF L f ks = cesF L g ks := filterMap_congr' fun k hk => by rw [h k hk]
theorem askN_congr {L : List Nd} {f g : Nat → Int × Int} {i : Nat} {n : Nd} (h : ∀ k ∈ kidD L i, f k = g k) : askN L f i n = askN L g i n := by
  unfold askN
  rw [pksF_congr h, cesF_congr h]
/-- a tree whose parents lie ahead, and whose numbers are as they may be -/
structure TrOK (L : List Nd) : Prop where
  l1 : 1 ≤ L.length
  l10 : L.length ≤ 10
  up : ∀ (k : Nat) (n : Nd), L[k]? = some n → (k = 0 ∧ n.pa = -1) ∨ (0 < k ∧ 0 ≤ n.pa ∧ n.pa < (k : Int))
  sz : ∀ (k : Nat) (n : Nd), L[k]? = some n → (0 ≤ n.ww ∧ n.ww ≤ 30) ∧ (0 ≤ n.hh ∧ n.hh ≤ 30) ∧ (n.ki = 0 ∨ n.ki = 1 ∨ n.ki = 2)
  pk : ∀ (k : Nat) (n : Nd), L[k]? = some n → n.pk.ok = true
  li : ∀ (k : Nat) (n : Nd), L[k]? = some n → n.ki = 1 → linesB n.cs = true ∧ linesB n.rs = true
  ce : ∀ (k : Nat) (n u : Nd), L[k]? = some n → 0 < k → L[n.pa.toNat]? = some u → u.ki = 1 → cellB u.cs.length u.rs.length n.ce = true
theorem kid_gt {L : List Nd} (h : TrOK L) {i k : Nat} (hk : k ∈ kidD L i) : i < k := by
  have e := List.getElem?_eq_getElem (kidD_lt hk)
  have hp := kidD_pa hk e
  rcases h.up k _ e with ⟨_, h2⟩ | ⟨_, h2, h3⟩
  · omega
  · omega
theorem szF_fuel {L : List Nd} (h : TrOK L) : ∀ (f g i : Nat), L.length ≤ f + i → L.length ≤ g + i → szF L f i = szF L g i := by
  intro f
  induction f with
  | zero =>
    intro g i h1 h2
    cases g with
    | zero => rfl
    | succ g =>
      have : L[i]? = none := List.getElem?_eq_none (by omega)
      simp [szF, this]
  | succ f ih =>
    intro g i h1 h2
    cases g with
    | zero =>
      have : L[i]? = none := List.getElem?_eq_none (by omega)
      simp [szF, this]
    | succ g =>
      cases hn : L[i]? with
      | none => simp [szF, hn]
      | some n =>
        simp only [szF, hn]
        exact askN_congr fun k hk => ih g k (by have := kid_gt h hk; omega) (by have := kid_gt h hk; omega)
theorem szM_eq {L : List Nd} (h : TrOK L) {i : Nat} {n : Nd} (hn : L[i]? = some n) : szM L i = askN L (szM L) i n := by
  have hi := (List.getElem?_eq_some_iff.1 hn).1
  obtain ⟨m, hm⟩ : ∃ m, L.length = m + 1 := ⟨L.length - 1, by omega⟩
  show szF L L.length i = _
  rw [hm]
  simp only [szF, hn]
  exact askN_congr fun k hk => by
    have := kid_gt h hk
    exact szF_fuel h m L.length k (by omega) (by omega)
/-- how great sizes can get -/
def mxB : Nat → Int
  | 0 => 30
  | f + 1 => 10 * (mxB f + 20) + 150
theorem mxB_nn : ∀ f, 30 ≤ mxB f
  | 0 => by simp [mxB]
  | f + 1 => by have := mxB_nn f; simp only [mxB]; omega
theorem mxB_le : ∀ {f g : Nat}, f ≤ g → mxB f ≤ mxB g
  | f, 0, h => by obtain rfl : f = 0 := by omega
                  exact Int.le_refl _
  | f, g + 1, h => by
    by_cases e : f = g + 1
    · subst e; exact Int.le_refl _
    · have := mxB_le (f := f) (g := g) (by omega)
      have := mxB_nn g
      simp only [mxB]; omega
theorem reqM_gen {M : Int} : ∀ {L : List Pk}, (∀ p ∈ L, ∀ d, 0 ≤ p.need d ∧ p.need d ≤ M) → 0 ≤ (reqM L).1 ∧ (reqM L).1 ≤ M * L.length ∧ 0 ≤ (reqM L).2 ∧ (reqM L).2 ≤ M * L.length
  | [], _ => by simp [reqM]
  | p :: t, h => by
    obtain ⟨a1, a2, a3, a4⟩ := reqM_gen (L := t) (fun q hq => h q (List.mem_cons_of_mem _ hq))
    have n1 := h p List.mem_cons_self false
    have n2 := h p List.mem_cons_self true
    have m1 := mx_spec (reqM t).1 (p.need false)
    have m2 := mx_spec (reqM t).2 (p.need true)
    have e : M * ((t.length + 1 : Nat) : Int) = M * (t.length : Int) + M := by rw [Int.natCast_add, Int.mul_add]; simp
    simp only [reqM, List.length_cons]
    rw [e]
    have hM : 0 ≤ M := by omega
    split <;> (dsimp only; omega)
theorem mem_pksF {L : List Nd} {f : Nat → Int × Int} {ks : List Nat} {p : Pk} (h : p ∈ pksF L f ks) : ∃ k m, k ∈ ks ∧ L[k]? = some m ∧ p = pkOf m (f k) := by
  obtain ⟨k, hk, e⟩ := List.mem_filterMap.1 h
  cases hm : L[k]? with
  | none => rw [hm] at e; cases e
  | some m => rw [hm] at e; exact ⟨k, m, hk, hm, by simpa using e.symm⟩
theorem mem_cesF {L : List Nd} {f : Nat → Int × Int} {ks : List Nat} {p : Ce} (h : p ∈ cesF L f ks) : ∃ k m, k ∈ ks ∧ L[k]? = some m ∧ p = ceOf m (f k) := by
  obtain ⟨k, hk, e⟩ := List.mem_filterMap.1 h
  cases hm : L[k]? with
  | none => rw [hm] at e; cases e
  | some m => rw [hm] at e; exact ⟨k, m, hk, hm, by simpa using e.symm⟩
theorem pksF_len (L : List Nd) (f : Nat → Int × Int) (ks : List Nat) : (pksF L f ks).length ≤ ks.length := List.length_filterMap_le _ _
theorem cesF_len (L : List Nd) (f : Nat → Int × Int) (ks : List Nat) : (cesF L f ks).length ≤ ks.length := List.length_filterMap_le _ _
theorem pk_bd {L : List Nd} (h : TrOK L) {f : Nat → Int × Int} {ks : List Nat} {M : Int} (hf : ∀ k ∈ ks, (0 ≤ (f k).1 ∧ (f k).1 ≤ M) ∧ (0 ≤ (f k).2 ∧ (f k).2 ≤ M)) : ∀ p ∈ pksF L f ks, ((0 ≤ p.w ∧ p.w ≤ M) ∧ (0 ≤ p.h ∧ p.h ≤ M) ∧ (0 ≤ p.s ∧ p.s ≤ 3) ∧ (0 ≤ p.an ∧ p.an ≤ 8) ∧ (0 ≤ p.px ∧ p.px ≤ 10) ∧ (0 ≤ p.py ∧ p.py ≤ 10)) := fun p hp => by
  obtain ⟨k, m, hk, hm, rfl⟩ := mem_pksF hp
  have := vpB_iff.1 (h.pk k m hm)
  have := hf k hk
  unfold pkOf
  dsimp only
  omega
theorem ce_bd {L : List Nd} (h : TrOK L) {i : Nat} {n : Nd} (hn : L[i]? = some n) (h1 : n.ki = 1) {f : Nat → Int × Int} {M : Int} (hf : ∀ k ∈ kidD L i, (0 ≤ (f k).1 ∧ (f k).1 ≤ M) ∧ (0 ≤ (f k).2 ∧ (f k).2 ≤ M)) :
    ∀ p ∈ cesF L f (kidD L i), ((0 ≤ p.cw ∧ p.cw ≤ M) ∧ (0 ≤ p.ch ∧ p.ch ≤ M)) ∧ ((0 ≤ p.px ∧ p.px ≤ 10) ∧ (0 ≤ p.py ∧ p.py ≤ 10)) ∧ (0 ≤ p.co ∧ 1 ≤ p.mc ∧ p.co + p.mc ≤ n.cs.length) ∧ (0 ≤ p.ro ∧ 1 ≤ p.mr ∧ p.ro + p.mr ≤ n.rs.length) ∧ (0 ≤ p.sk ∧ p.sk ≤ 15) := fun p hp => by
  obtain ⟨k, m, hk, hm, rfl⟩ := mem_cesF hp
  have hpa := kidD_pa hk hm
  have hgt := kid_gt h hk
  have hc := h.ce k m n hm (by omega) (by rw [hpa]; simpa using hn) h1
  simp only [cellB, runB, Bool.and_eq_true, rng_iff] at hc
  have := hf k hk
  unfold ceOf
  dsimp only
  omega
theorem askN_bd {L : List Nd} (h : TrOK L) {i : Nat} {n : Nd} (hn : L[i]? = some n) {f : Nat → Int × Int} {M : Int} (h30 : 30 ≤ M) (hM : M ≤ 1000000000000) (hf : ∀ k ∈ kidD L i, (0 ≤ (f k).1 ∧ (f k).1 ≤ M) ∧ (0 ≤ (f k).2 ∧ (f k).2 ≤ M)) :
    (0 ≤ (askN L f i n).1 ∧ (askN L f i n).1 ≤ 10 * (M + 20) + 150) ∧ (0 ≤ (askN L f i n).2 ∧ (askN L f i n).2 ≤ 10 * (M + 20) + 150) := by
  have hs := h.sz i n hn
  have hkl := kidD_len L i
  have hl := h.l10
  unfold askN
  split
  · dsimp only; omega
  · rename_i hc
    split
    · have hp := pk_bd h hf
      obtain ⟨a1, a2, a3, a4⟩ := reqM_gen (M := M + 20) (L := pksF L f (kidD L i)) (fun p hq d => by have := hp p hq; unfold Pk.need; split <;> omega)
      have hl2 := pksF_len L f (kidD L i)
      have e : (M + 20) * ((pksF L f (kidD L i)).length : Int) ≤ (M + 20) * 10 := Int.mul_le_mul_of_nonneg_left (by omega) (by omega)
      omega
    · rename_i h0
      have h1 : n.ki = 1 := by
        rcases hs.2.2 with e | e | e
        · exact absurd e h0
        · exact e
        · exact absurd (.inr (.inr e)) hc
      have hp := ce_bd h hn h1 hf
      obtain ⟨v1, v2⟩ := h.li i n hn h1
      have hl2 := cesF_len L f (kidD L i)
      have w1 : ∀ s ∈ (cesF L f (kidD L i)).map acM, spanW n.cs.length s ∧ s.need ≤ M + 20 := fun s hs' => by
        obtain ⟨p, hpm, rfl⟩ := List.mem_map.1 hs'
        have := hp p hpm
        refine ⟨⟨p.co.toNat, p.mc.toNat, ?_, ?_, ?_, ?_, ?_, ?_⟩, ?_⟩ <;> first | omega | (unfold acM; dsimp only; omega)
      have w2 : ∀ s ∈ (cesF L f (kidD L i)).map dnM, spanW n.rs.length s ∧ s.need ≤ M + 20 := fun s hs' => by
        obtain ⟨p, hpm, rfl⟩ := List.mem_map.1 hs'
        have := hp p hpm
        refine ⟨⟨p.ro.toNat, p.mr.toNat, ?_, ?_, ?_, ?_, ?_, ?_⟩, ?_⟩ <;> first | omega | (unfold dnM; dsimp only; omega)
      have b1 := wish_bdW v1 ⟨by simp; omega, fun s hs' => (w1 s hs').1⟩
      have b2 := wish_bdW v2 ⟨by simp; omega, fun s hs' => (w2 s hs').1⟩
      have c1 := needs_bd (n := n.cs.length) (B := M + 20) (by omega) (fun s hs' => (w1 s hs').2)
      have c2 := needs_bd (n := n.rs.length) (B := M + 20) (by omega) (fun s hs' => (w2 s hs').2)
      have z1 := sumI_nonneg b1.2.1
      have z2 := sumI_nonneg b2.2.1
      rw [List.length_map] at c1 c2
      have e : (M + 20) * ((cesF L f (kidD L i)).length : Int) ≤ (M + 20) * 10 := Int.mul_le_mul_of_nonneg_left (by omega) (by omega)
      have y1 := b1.2.2
      have y2 := b2.2.2
      unfold gridM
      dsimp only
      omega
theorem szF_bd {L : List Nd} (h : TrOK L) : ∀ (f i : Nat), f ≤ 10 → (0 ≤ (szF L f i).1 ∧ (szF L f i).1 ≤ mxB f) ∧ (0 ≤ (szF L f i).2 ∧ (szF L f i).2 ≤ mxB f) := by
  intro f
  induction f with
  | zero => intro i _; simp [szF, mxB]
  | succ f ih =>
    intro i hf
    have hb : mxB f ≤ 1000000000000 := Int.le_trans (mxB_le (show f ≤ 9 by omega)) (by decide)
    have h30 := mxB_nn f
    cases hn : L[i]? with
    | none => simp only [szF, hn, mxB]; omega
    | some n =>
      simp only [szF, hn, mxB]
      exact askN_bd h hn h30 hb (fun k _ => ih k (by omega))
theorem szM_bd {L : List Nd} (h : TrOK L) (i : Nat) : (0 ≤ (szM L i).1 ∧ (szM L i).1 ≤ 1000000000000) ∧ (0 ≤ (szM L i).2 ∧ (szM L i).2 ≤ 1000000000000) := by
  have hb := szF_bd h L.length i h.l10
  have : mxB L.length ≤ 1000000000000 := Int.le_trans (mxB_le h.l10) (by decide)
  unfold szM
  omega
end Go.Proofs.YtgdkionmeacalabGreat
end
section
namespace Go.Proofs.YtgdkionmeacalabGreat
open Go Go.RowKit
set_option linter.unusedVariables false
set_option maxHeartbeats 4000000
def reqName : String := "loop.example/widgetroom/impl.request"
theorem nc_pk (v : Value) (w : World) : (nilAhead (Tryz.prog.types.size + Made.depth) 134 v "loop.example/widgetroom/impl.request").run Tryz.prog w = .ok (some false) w := by kernel_rfl
theorem nc_gr (v : Value) (w : World) : (nilAhead (Tryz.prog.types.size + Made.depth) 128 v "loop.example/widgetroom/impl.request").run Tryz.prog w = .ok (some false) w := by kernel_rfl
theorem nc_pl (v : Value) (w : World) : (nilAhead (Tryz.prog.types.size + Made.depth) 130 v "loop.example/widgetroom/impl.request").run Tryz.prog w = .ok (some false) w := by kernel_rfl
theorem cm_pk (v u : Value) (w : World) : (callMethod (.iface 134 v) "loop.example/widgetroom/impl.request" #[u]).run Tryz.prog w = .ok (.enter 183 #[v, u]) w := by kernel_rfl
theorem cm_gr (v u : Value) (w : World) : (callMethod (.iface 128 v) "loop.example/widgetroom/impl.request" #[u]).run Tryz.prog w = .ok (.enter 152 #[v, u]) w := by kernel_rfl
theorem cm_pl (v u : Value) (w : World) : (callMethod (.iface 130 v) "loop.example/widgetroom/impl.request" #[u]).run Tryz.prog w = .ok (.enter 175 #[v, u]) w := by kernel_rfl
theorem run_inv {P : Program} {ρ : Operand → Value} {o : Oper} {w : World} {T : TypeId} {v u : Value} {x y : Operand} {name : String} {ts : Array TypeId} {F : FuncId} (ho : o.op = .call { callee := .invoke x name, args := #[y], argTypes := ts }) (hx : ρ x = .iface T v) (hy : ρ y = u) (hc : (callMethod (.iface T v) name #[u]).run P w = .ok (.enter F #[v, u]) w) : (execOp ρ o).run P w = .ok (.enter F #[v, u]) w := by
  unfold execOp
  simp only [ho, resolve, List.map_toArray, List.map_cons, List.map_nil, hx, hy, Sem.run_bind, Sem.run_pure, Result.andThen_ok, invoke]
  simpa using hc
theorem run_mf {P : Program} {ρ : Operand → Value} {o : Oper} {w : World} {x : Operand} {name : String} (ho : o.op = .makeFunc (.method name) #[x] #[]) : (execOp ρ o).run P w = .ok (.value (.func (.method name) #[ρ x] #[])) w := by
  unfold execOp
  simp only [ho]
  simp [Instr.makeFunc, Sem.run_pure]
theorem run_nc {P : Program} {ρ : Operand → Value} {o : Oper} {w : World} {T : TypeId} {v : Value} {x : Operand} {name : String} (ho : o.op = .nilCheck x) (hx : ρ x = .func (.method name) #[.iface T v] #[]) (hn : (nilAhead (P.types.size + Made.depth) T v name).run P w = .ok (some false) w) : (execOp ρ o).run P w = .ok (.value (ρ x)) w := by
  unfold execOp
  simp only [ho, hx]
  simp [Sem.run_bind, hn]
/-- what an arrangement is asked for what its parent asks for -/
theorem arReq {v : Value} {x : Wd} {p : Nr} {Y : List Wd} {w : World} {ww hh : Int} {q : Int × Int} (h : ArV w v x Y) (hx : x.p = p) (hr : RdN w p) (hl : Y.length ≤ 10)
    (c0 : p.n.ki ≠ 1 → p.n.ki ≠ 2 → (∀ r ∈ Y.map pkW, r.big) ∧ reqM (Y.map pkW) = q)
    (c1 : p.n.ki = 1 → (linesB p.n.cs = true ∧ linesB p.n.rs = true) ∧ ((∀ r ∈ Y.map ceW, smW r) ∧ spansW p.n.cs.length ((Y.map ceW).map acM) ∧ spansW p.n.rs.length ((Y.map ceW).map dnM)) ∧ gridM p.n.cs p.n.rs (Y.map ceW) = q)
    (c2 : p.n.ki = 2 → (ww, hh) = q) :
    ∃ T u F, v = .iface T u ∧ (nilAhead (Tryz.prog.types.size + Made.depth) T u "loop.example/widgetroom/impl.request").run Tryz.prog w = .ok (some false) w ∧
      (∀ z w, (callMethod (.iface T u) "loop.example/widgetroom/impl.request" #[z]).run Tryz.prog w = .ok (.enter F #[u, z]) w) ∧
      Calls Tryz.prog F #[u, .agg (valsWi (ww, hh)).toArray] w fun e w' => e = .returned (.agg (valsWi q).toArray) ∧ Below w.heap.size w w' := by
  subst hx
  obtain ⟨g, hg, ⟨k1, rfl, hv⟩ | ⟨k1, rfl, hv⟩ | ⟨k1, k2, rfl, hv⟩⟩ := h
  · obtain ⟨⟨l1, l2⟩, ⟨s1, s2, s3⟩, rfl⟩ := c1 k1
    refine ⟨_, _, _, rfl, nc_gr _ _, fun _ _ => cm_gr _ _ _, ?_⟩
    exact gridReq_v _ _ _ _ _ _ _ _ _ (Y.map ceW) ww hh w hr.c hr.r (cev_of (by rw [List.map_map]; exact hv)) (by rw [List.length_map]) l1 l2 (by rw [List.length_map]; exact hl) s1 s2 s3
  · obtain rfl := c2 k1
    exact ⟨_, _, _, rfl, nc_pl _ _, fun _ _ => cm_pl _ _ _, placeReq_v _ ww hh w⟩
  · obtain ⟨b1, rfl⟩ := c0 k1 k2
    refine ⟨_, _, _, rfl, nc_pk _ _, fun _ _ => cm_pk _ _ _, ?_⟩
    exact packReq_v _ _ _ (Y.map pkW) ww hh w (pv_of (by rw [List.map_map]; exact hv)) (by rw [List.length_map]) b1 (by rw [List.length_map]; exact hl)
/-- the method of an arrangement, with it -/
def MfV (w : World) (v : Value) (x : Wd) (Y : List Wd) : Prop := ∃ u, v = .func (.method "loop.example/widgetroom/impl.request") #[u] #[] ∧ ArV w u x Y
theorem MfV.keep {w w' : World} {v : Value} {x : Wd} {Y : List Wd} (h : MfV w v x Y) (hb : Below w.heap.size w w') : MfV w' v x Y := let ⟨u, e, k⟩ := h; ⟨u, e, k.keep hb⟩
theorem pick_pk {R : List Nr} {X : List Wd} {f : Nat → Int × Int} : ∀ {ks : List Nat}, (∀ k ∈ ks, ∃ y p, X[k]? = some y ∧ R[k]? = some p ∧ y.p = p ∧ (y.sw, y.sh) = f k) → (pickW X ks).map pkW = pksF (R.map Nr.n) f ks ∧ (pickW X ks).map ceW = cesF (R.map Nr.n) f ks
  | [], _ => ⟨rfl, rfl⟩
  | k :: t, h => by
    obtain ⟨y, p, h1, h2, h3, h4⟩ := h k (List.mem_cons_self ..)
    obtain ⟨i1, i2⟩ := pick_pk (X := X) (R := R) (f := f) (ks := t) fun k hk => h k (List.mem_cons_of_mem _ hk)
    have e : (R.map Nr.n)[k]? = some p.n := by rw [List.getElem?_map, h2]; rfl
    unfold pickW at i1 i2 ⊢
    unfold pksF at i1 ⊢
    unfold cesF at i2 ⊢
    rw [List.filterMap_cons_some (b := y) h1, List.filterMap_cons_some (b := pkOf p.n (f k)) (by rw [e]; rfl), List.filterMap_cons_some (b := ceOf p.n (f k)) (by rw [e]; rfl)]
    rw [List.map_cons, List.map_cons, i1, i2]
    refine ⟨?_, ?_⟩
    · congr 1
      unfold pkW pkOf
      rw [h3, ← h4]
    · congr 1
      unfold ceW ceOf
      rw [h3, ← h4]
end Go.Proofs.YtgdkionmeacalabGreat
end
section
namespace Go.Proofs.YtgdkionmeacalabGreat
open Go.RowKit
set_option linter.unusedVariables false
set_option linter.unusedSimpArgs false
set_option maxHeartbeats 4000000
theorem idsM_one {f : Nat → Bool} (h : f 0 = false) : idsM f 1 = [] := by rw [idsM_no h]; rfl
set_option maxRecDepth 100000 in
theorem skidsOf_v (A : Option Addr) (c : Nat) (R : List Nr) (i : Int) (w : World) (h : NrV w A R) (h1 : 1 ≤ R.length) (hL : R.length ≤ 1048576) (hz : isKid R i 0 = false) :
    Calls Tryz.prog 53 #[.agg #[.slice A R.length c], .int .i64 i] w fun e w' => (∃ v, e = .returned v ∧ KdV w' v (kidsM R i)) ∧ Below w.heap.size w w' := by
  obtain ⟨ti, tz, ti1, ti2, ti3, ti4, ti5⟩ := int_infoW
  obtain ⟨b, off, rfl, hb, hc⟩ := h.cells h1
  have HC := Lib.hid hc
  clear hc h
  refine calls_abs Tryz.func53 rfl 28 (by simp only [Tryz.ntmps53]) (by simp) (fun t hsz hargs => ?_)
  have q0 : t[0]? = some (.agg #[.slice (some ⟨b, off, none⟩) R.length c]) := get_of (by omega) (hargs 0 _ rfl)
  have q1 : t[1]? = some (.int .i64 i) := get_of (by omega) (hargs 1 _ rfl)
  clear hargs
  obtain ⟨l0, e0⟩ := Array.getElem?_eq_some_iff.1 q0
  obtain ⟨l1, e1⟩ := Array.getElem?_eq_some_iff.1 q1
  refine wp_seq_h fun K hK => ?_
  apply wp_region_lit
  repeat (first | go_step)
  refine hK.out _ _ ?_
  clear hK K
  refine wp_abw (fun t' W' => t'.size = 28 ∧ t'[1]? = some (.int .i64 i) ∧ t'[2]? = some (.pointer (some ⟨w.heap.size, 0, none⟩)) ∧ W'.heap[w.heap.size]? = some (.cells #[.slice (some ⟨b, off, none⟩) R.length c] 25 (0, 0)) ∧ Below w.heap.size w W') ⟨by simp [Act.put, hsz], by simp [Act.put, q1], by simp [Act.put, hsz], ⟨newS _ _, balloc (Below.refl _ _)⟩⟩ ?_
  clear hsz q0 l0 e0 q1 l1 e1 t 
  rintro t Wb ⟨hsz, q1, q2, HX, hB0⟩
  have HXX := Lib.hid HX
  have HB0 := Lib.hid hB0
  replace HC := Lib.hid (show ∀ k p, R[k]? = some p → Wb.rangeAt b (off + k * 34) (valsNr p) from fun k p hk => rangeB (HC.out k p hk) (hB0.block b hb))
  have hbl : b < Wb.heap.size := Nat.lt_of_lt_of_le hb hB0.size
  have lxb : w.heap.size < Wb.heap.size := ltS HX
  clear HX hB0 hb
  obtain ⟨l1, e1⟩ := Array.getElem?_eq_some_iff.1 q1
  obtain ⟨l2, e2⟩ := Array.getElem?_eq_some_iff.1 q2
  refine wp_seq_h fun K hK => ?_
  apply wp_region_lit
  repeat (first | go_step)
  refine hK.out _ _ ?_
  clear hK K
  refine wp_abw (fun t' W' => t'.size = 28 ∧ t'[1]? = some (.int .i64 i) ∧ t'[2]? = some (.pointer (some ⟨w.heap.size, 0, none⟩)) ∧ t'[5]? = some (.slice (some ⟨Wb.heap.size, 0, none⟩) 0 0) ∧ W'.ownsRow Wb.heap.size 3 1 (.slice (some ⟨Wb.heap.size, 0, none⟩) 0 0) 0 (nvalsW []) ∧ Below Wb.heap.size Wb W') ⟨by simp [Act.put, hsz], by simp [Act.put, q1], by simp [Act.put, q2], by simp [Act.put, hsz], ⟨World.ownsRow_lit (base := Wb.heap.size) (e := 3) (size := 1) Wb #[] 0 (Nat.le_refl _) (by decide) rfl, balloc (Below.refl _ _)⟩⟩ ?_
  clear hsz q1 l1 e1 q2 l2 e2 t 
  rintro t W0 ⟨hsz, q1, q2, q5, hO, hB⟩
  refine wp_seq_h fun KE hKE => ?_
  obtain ⟨l1, e1⟩ := Array.getElem?_eq_some_iff.1 q1
  obtain ⟨l2, e2⟩ := Array.getElem?_eq_some_iff.1 q2
  obtain ⟨l5, e5⟩ := Array.getElem?_eq_some_iff.1 q5
  refine wp_seq_h fun K hK => ?_
  apply wp_region_lit
  repeat (first | go_step)
  refine hK.out _ _ ?_
  clear hK K
  refine wp_abw (fun t' W' => t'.size = 28 ∧ t'[1]? = some (.int .i64 i) ∧ t'[2]? = some (.pointer (some ⟨w.heap.size, 0, none⟩)) ∧ t'[5]? = some (.slice (some ⟨Wb.heap.size, 0, none⟩) 0 0) ∧ t'[6]? = some (.int .i64 ((1 : Nat) : Int)) ∧ W0 = W') ⟨by simp [Act.put, hsz], by simp [Act.put, q1], by simp [Act.put, q2], by simp [Act.put, q5], by simp [Act.put, hsz], rfl⟩ ?_
  clear hsz q1 l1 e1 q2 l2 e2 q5 l5 e5 t 
  rintro t _ ⟨hsz, q1, q2, q5, q6, rfl⟩
  apply wp_block
  refine wp_loop (fun a W => ∃ (t : Array Value) (k : Nat) (v : Value), a = ⟨t, []⟩ ∧ 1 ≤ k ∧ k ≤ R.length ∧ t.size = 28 ∧ t[1]? = some (.int .i64 i) ∧ t[2]? = some (.pointer (some ⟨w.heap.size, 0, none⟩)) ∧ t[5]? = some (v) ∧ t[6]? = some (.int .i64 (k : Int)) ∧ W.ownsRow Wb.heap.size 3 1 v (idsM (isKid R i) k).length (nvalsW (idsM (isKid R i) k)) ∧ Below Wb.heap.size Wb W) (fun a _ => R.length - (intOf (a.tmps.getD 6 undef)).toNat) ⟨t, 1, _, rfl, by omega, h1, hsz, q1, q2, q5, q6, by rw [idsM_one hz]; exact hO, hB⟩ ?_
  clear t hsz q1 q2 q5 q6 hO hB W0
  rintro a W ⟨t, k, v, rfl, hk1, hk, hsz, q1, q2, q5, q6, hO, hB⟩
  have hmu : intOf (t.getD 6 undef) = (k : Int) := by rw [Array.getD_eq_getD_getElem?, q6]; rfl
  dsimp only
  rw [hmu]
  clear hmu
  have HO := Lib.hid hO
  have HB := Lib.hid hB
  have x0 := cellS ((hB.block _ lxb).trans HXX.out) 0
  have lx : w.heap.size < W.heap.size := Nat.lt_of_lt_of_le lxb hB.size
  clear hO hB
  by_cases hlt : k < R.length
  · have hd : decide ((k : Int) < (R.length : Int)) = true := by simpa using hlt
    refine wp_seq_h fun K1 hK1 => ?_
    obtain ⟨l1, e1⟩ := Array.getElem?_eq_some_iff.1 q1
    obtain ⟨l2, e2⟩ := Array.getElem?_eq_some_iff.1 q2
    obtain ⟨l5, e5⟩ := Array.getElem?_eq_some_iff.1 q5
    obtain ⟨l6, e6⟩ := Array.getElem?_eq_some_iff.1 q6
    refine wp_seq_h fun K hK => ?_
    apply wp_region_lit
    repeat (first | go_step)
    refine hK.out _ _ ?_
    clear hK K
    refine wp_abw (fun t' W' => t'.size = 28 ∧ t'[1]? = some (.int .i64 i) ∧ t'[2]? = some (.pointer (some ⟨w.heap.size, 0, none⟩)) ∧ t'[5]? = some (v) ∧ t'[6]? = some (.int .i64 (k : Int)) ∧ t'[12]? = some (.bool true) ∧ W = W') ⟨by simp [Act.put, hsz], by simp [Act.put, q1], by simp [Act.put, q2], by simp [Act.put, q5], by simp [Act.put, q6], by simp [Act.put, hsz, hd], rfl⟩ ?_
    clear hsz q1 l1 e1 q2 l2 e2 q5 l5 e5 q6 l6 e6 t 
    rintro t _ ⟨hsz, q1, q2, q5, q6, q12, rfl⟩
    clear hd
    refine wp_cond_true (by simp [Act.eval, q12]) ?_
    apply wp_skip
    simp only [Exit.then]
    refine hK1.out _ _ ?_
    clear hK1 K1 q12
    refine wp_seq_h fun KB hKB => ?_
    apply wp_block
    have hget : R[k]? = some R[k] := List.getElem?_eq_getElem hlt
    have c0 : W.cell? ⟨b, off + k * 34, none⟩ = some (.int .i64 R[k].n.pa) := (HB.out.cell (p := ⟨b, off + k * 34, none⟩) hbl).trans (HC.out k _ hget 0 _ rfl)
    have hik := isKid_at (i := i) hget
    generalize R[k] = p at *
    have hd1 : (k : Int) < (R.length : Int) := by omega
    have hbl1 : b < W.heap.size := Nat.lt_of_lt_of_le hbl HB.out.size
    have HIK := Lib.hid hik
    clear hget hik
    obtain ⟨l1, e1⟩ := Array.getElem?_eq_some_iff.1 q1
    obtain ⟨l2, e2⟩ := Array.getElem?_eq_some_iff.1 q2
    obtain ⟨l5, e5⟩ := Array.getElem?_eq_some_iff.1 q5
    obtain ⟨l6, e6⟩ := Array.getElem?_eq_some_iff.1 q6
    refine wp_seq_h fun K hK => ?_
    apply wp_region_lit
    repeat (first | go_step)
    refine hK.out _ _ ?_
    clear hK K
    refine wp_abw (fun t' W' => t'.size = 28 ∧ t'[1]? = some (.int .i64 i) ∧ t'[2]? = some (.pointer (some ⟨w.heap.size, 0, none⟩)) ∧ t'[5]? = some (v) ∧ t'[6]? = some (.int .i64 (k : Int)) ∧ t'[22]? = some (.bool (isKid R i k)) ∧ W = W') ⟨by simp [Act.put, hsz], by simp [Act.put, q1], by simp [Act.put, q2], by simp [Act.put, q5], by simp [Act.put, q6], by simp [Act.put, hsz, HIK.out], rfl⟩ ?_
    clear hsz q1 l1 e1 q2 l2 e2 q5 l5 e5 q6 l6 e6 t c0 hd1 hbl1
    rintro t _ ⟨hsz, q1, q2, q5, q6, q22, rfl⟩
    by_cases hfk : isKid R i k = true
    · have hids := idsM_yes hfk
      rw [hfk] at q22
      refine wp_cond_true (by simp [Act.eval, q22]) ?_
      clear q22
      obtain ⟨l1, e1⟩ := Array.getElem?_eq_some_iff.1 q1
      obtain ⟨l2, e2⟩ := Array.getElem?_eq_some_iff.1 q2
      obtain ⟨l5, e5⟩ := Array.getElem?_eq_some_iff.1 q5
      obtain ⟨l6, e6⟩ := Array.getElem?_eq_some_iff.1 q6
      have hob : ∀ b, v.ownBlock = some b → Wb.heap.size ≤ b ∧ b < W.heap.size := HO.out.lt
      have hw1 : Wb.heap.size ≤ W.heap.size := HB.out.size
      have hlen := idsM_len (isKid R i) k
      apply wp_region_lit
      repeat (first | ((with_reducible show wpList _ _ _ _ _ _); refine wpList_append_own _ rfl _ _ 42 rfl Wb.heap.size 3 ti tz 1 8 Tryz.underlying42 ti1 ti2 ti3 ti4 ti5 (by decide) v _ _ (by simp [Act.eval, Act.put, hsz, e5]) (HO.out.alloc _) ⟨W.heap.size, 0, none⟩ 1 1 [.int .i64 (k : Int)] (by simp [Act.eval, Act.put, hsz]) rfl (newW _ _ _) (by simp [Value.oneCell']) (by simp only [maxLen]; omega) (by omega) (by simp; omega) ?_) | go_step)
      intro v5 w5 how5 hgr5 _
      have hb5 := below_own HB.out hgr5 hob (Nat.le_refl _) (Nat.le_refl _)
      rw [nvalsW_snoc, ← hids] at how5
      have hlen5 : (idsM (isKid R i) k).length + 1 = (idsM (isKid R i) (k + 1)).length := by rw [hids]; simp
      rw [hlen5] at how5
      clear hlen5 hids
      repeat go_step
      try simp only [Exit.inBlock]
      refine hKB.out _ _ ?_
      clear hKB KB
      refine wp_abw (fun t' W' => t'.size = 28 ∧ t'[1]? = some (.int .i64 i) ∧ t'[2]? = some (.pointer (some ⟨w.heap.size, 0, none⟩)) ∧ t'[5]? = some (v5) ∧ t'[6]? = some (.int .i64 (k : Int)) ∧ w5 = W') ⟨by simp [Act.put, hsz], by simp [Act.put, q1], by simp [Act.put, q2], by simp [Act.put, hsz], by simp [Act.put, q6], rfl⟩ ?_
      clear hsz q1 l1 e1 q2 l2 e2 q5 l5 e5 q6 l6 e6 t hob hw1
      rintro t _ ⟨hsz, q1, q2, q5, q6, rfl⟩
      obtain ⟨l1, e1⟩ := Array.getElem?_eq_some_iff.1 q1
      obtain ⟨l2, e2⟩ := Array.getElem?_eq_some_iff.1 q2
      obtain ⟨l5, e5⟩ := Array.getElem?_eq_some_iff.1 q5
      obtain ⟨l6, e6⟩ := Array.getElem?_eq_some_iff.1 q6
      apply wp_region_lit
      repeat go_step
      try simp only [Exit.then]
      refine ⟨⟨_, k + 1, v5, rfl, by omega, by omega, by simp [hsz], by simp [q1], by simp [q2], by simp [q5], by simp [hsz], how5, hb5⟩, ?_⟩
      · simp [hsz, intOf]
        omega
    · have hfk' : isKid R i k = false := by simpa using hfk
      have hids := idsM_no hfk'
      rw [hfk'] at q22
      refine wp_cond_false (by simp [Act.eval, q22]) ?_
      clear q22
      apply wp_skip
      try simp only [Exit.inBlock]
      refine hKB.out _ _ ?_
      clear hKB KB
      obtain ⟨l1, e1⟩ := Array.getElem?_eq_some_iff.1 q1
      obtain ⟨l2, e2⟩ := Array.getElem?_eq_some_iff.1 q2
      obtain ⟨l5, e5⟩ := Array.getElem?_eq_some_iff.1 q5
      obtain ⟨l6, e6⟩ := Array.getElem?_eq_some_iff.1 q6
      apply wp_region_lit
      repeat go_step
      try simp only [Exit.then]
      refine ⟨⟨_, k + 1, v, rfl, by omega, by omega, by simp [hsz], by simp [q1], by simp [q2], by simp [q5], by simp [hsz], by rw [hids]; exact HO.out, HB.out⟩, ?_⟩
      · simp [hsz, intOf]
        omega
  · have hd : decide ((k : Int) < (R.length : Int)) = false := decide_eq_false (by omega)
    refine wp_seq_h fun K1 hK1 => ?_
    obtain ⟨l1, e1⟩ := Array.getElem?_eq_some_iff.1 q1
    obtain ⟨l2, e2⟩ := Array.getElem?_eq_some_iff.1 q2
    obtain ⟨l5, e5⟩ := Array.getElem?_eq_some_iff.1 q5
    obtain ⟨l6, e6⟩ := Array.getElem?_eq_some_iff.1 q6
    refine wp_seq_h fun K hK => ?_
    apply wp_region_lit
    repeat (first | go_step)
    refine hK.out _ _ ?_
    clear hK K
    refine wp_abw (fun t' W' => t'.size = 28 ∧ t'[1]? = some (.int .i64 i) ∧ t'[2]? = some (.pointer (some ⟨w.heap.size, 0, none⟩)) ∧ t'[5]? = some (v) ∧ t'[6]? = some (.int .i64 (k : Int)) ∧ t'[12]? = some (.bool false) ∧ W = W') ⟨by simp [Act.put, hsz], by simp [Act.put, q1], by simp [Act.put, q2], by simp [Act.put, q5], by simp [Act.put, q6], by simp [Act.put, hsz, hd], rfl⟩ ?_
    clear hsz q1 l1 e1 q2 l2 e2 q5 l5 e5 q6 l6 e6 t 
    rintro t _ ⟨hsz, q1, q2, q5, q6, q12, rfl⟩
    refine wp_cond_false (by simp [Act.eval, q12]) ?_
    apply wp_exit
    simp only [Exit.then, Exit.inBlock, if_true]
    refine hKE.out _ _ ?_
    clear hd
    obtain rfl : k = R.length := by omega
    obtain ⟨l1, e1⟩ := Array.getElem?_eq_some_iff.1 q1
    obtain ⟨l2, e2⟩ := Array.getElem?_eq_some_iff.1 q2
    obtain ⟨l5, e5⟩ := Array.getElem?_eq_some_iff.1 q5
    obtain ⟨l6, e6⟩ := Array.getElem?_eq_some_iff.1 q6
    obtain ⟨l12, e12⟩ := Array.getElem?_eq_some_iff.1 q12
    repeat go_step
    refine bodyPost_ret (results_tmp rfl _ _ _) rfl ?_
    exact ⟨⟨v, by simp [hsz], KdV.of HO.out⟩, bkeep2 HB0.out HB.out⟩
end Go.Proofs.YtgdkionmeacalabGreat
end
