import Derived.Test.YtfnpdlnepjhljaaGreatQH06
import Derived.OrdersIn
import Derived.TacticsIn
set_option linter.unusedVariables false
set_option linter.unusedSimpArgs false
set_option maxRecDepth 100000
set_option maxHeartbeats 16000000
namespace Go.Proofs.YtfnpdlnepjhljaaGreat
open Go.RowKit
attribute [local go_sem] kZb kZp kZg
theorem pv_of {w:World} {A:Option Addr} {L:List Pk} (h:RvK 9 w A (L.map pZj)):PV w A L:=⟨fun h0=>by
 obtain ⟨b,off,e,hb,hp⟩:=h (by simpa using h0);refine ⟨b,off,e,hb,fun i p hi=>?_⟩;have hr:=hp i (pZj p) (by rw [List.getElem?_map,hi];rfl)
 exact ⟨hr 0 _ rfl,hr 1 _ rfl,hr 2 _ rfl,hr 3 _ rfl,hr 4 _ rfl,hr 5 _ rfl,hr 6 _ rfl,hr 7 _ rfl,hr 8 _ rfl⟩⟩
theorem cev_of {w:World} {A:Option Addr} {L:List Ce} (h:RvK 9 w A (L.map kZn)):CeV w A L:=⟨fun h0=>by
 obtain ⟨b,off,e,hb,hp⟩:=h (by simpa using h0);refine ⟨b,off,e,hb,fun i p hi=>?_⟩;have hr:=hp i (kZn p) (by rw [List.getElem?_map,hi];rfl)
 exact ⟨hr 0 _ rfl,hr 1 _ rfl,hr 2 _ rfl,hr 3 _ rfl,hr 4 _ rfl,hr 5 _ rfl,hr 6 _ rfl,hr 7 _ rfl,hr 8 _ rfl⟩⟩
theorem packReq_v (A:Option Addr) (c n:Nat) (L:List Pk) (ow oh:Int) (w:World) (h:PV w A L) (hn:n=L.length) (hok:∀ p∈L,p.big) (h7:L.length≤10) :
  Calls Tryz.prog 235 #[.slice A n c,.agg (kZs (ow,oh)).toArray] w fun e w'=>e=.returned (.agg (kZs (reqM L)).toArray)∧Below w.heap.size w w':=by
 subst hn;have HV:=hD h;have HOK:=hD hok;clear h hok;refine kZ7 Tryz.func235 rfl 10 (by simp only [Tryz.ntmps235]) (by simp) (fun t hsz hargs=>?_);have q0:t[0]?=some (.slice A L.length c):=pZl (by omega) (hargs 0 _ rfl);have q1:t[1]?=some (.agg (kZs (ow,oh)).toArray):=pZl (by omega) (hargs 1 _ rfl);clear hargs;obtain ⟨l0,e0⟩:=gE q0;obtain ⟨l1,e1⟩:=gE q1
 refine jZe fun K hK=>?_
 apply wp_region_lit
 repeat (first|((with_reducible show wpList _ _ _ _ _ _);refine sZa 82 2 rfl rfl bZ9 (fun z hz=>?_)) | go_step)
 refine hK.out _ _ ?_;clear hK K
 refine jZy (fun t' W'=>t'.size=10∧t'[0]?=some (.slice A L.length c)∧t'[4]?=some (.pointer (some ⟨w.heap.size+1,0,none⟩))∧(∃ z:Array Value,W'.heap[w.heap.size+1]?=some (.cells z 82 (0,0))∧z.size=2)∧Below w.heap.size w W') ⟨by simp [Act.put,hsz],by simp [Act.put,q0],by simp [Act.put,hsz],⟨⟨z,by have:=newS (w.alloc (.cells (kZs (ow,oh)).toArray 82)) (.cells z 82);simpa using this,hz⟩,(jZd (Below.refl _ _)).trans ((jZd (Below.refl _ _)).mono (by simp))⟩⟩ ?_
 clear hsz q0 l0 e0 q1 l1 e1 t z hz;rintro t W1 ⟨hsz,q0,q4,⟨z,H2,hz⟩,hB⟩;have HB:=hD hB;replace HV:=hD (HV.out.keep hB);have HX:=hD H2;clear hB H2;obtain ⟨l0,e0⟩:=gE q0;obtain ⟨l4,e4⟩:=gE q4
 refine jZe fun K hK=>?_
 apply wp_region_lit
 repeat go_step
 refine (uZh A c L false _ HV.out HOK.out h7).mono ?_;rintro e W2 ⟨rfl,hb2⟩
 dsimp only
 have HV2:=hD (HV.out.keep hb2);have HB2:=hD (jZa HB.out hb2);have HX2:=hD ((hb2.block _ (ltS HX.out)).trans HX.out);clear hb2 HB HV HX
 repeat go_step
 refine (uZh A c L true _ HV2.out HOK.out h7).mono ?_;rintro e W3 ⟨rfl,hb3⟩
 dsimp only
 have HB:=hD (jZa HB2.out hb3);have HX:=hD ((hb3.block _ (ltS HX2.out)).trans HX2.out);clear hb3 HB2 HV2 HX2;have HTH:=hD (show W3.there (w.heap.size+1) 0 (kZs (reqM L)).length from pZb HX.out (by rw [hz];show 0+2≤2;omega))
 repeat (first|((with_reducible show wpList _ _ _ _ _ _);refine stK 82 _ _ (kZs (reqM L)) (w.heap.size+1) 0 rfl rfl HTH.out sZm (tZb _) (by simp [Act.eval,Act.put,hsz,e4]) (by simp [Act.eval,Act.put,hsz,kZs,reqD]) ?_) | go_step)
 refine hK.out _ _ ?_;clear hK K;apply wp_ret;refine qZm 4 82 (w.heap.size+1) (kZs (reqM L)) Tryz.results235 ?_ (World.rangeAt_setCells_same _ _ _ _ HTH.out) Tryz.underlying82 rfl sZm rfl ⟨rfl,jZi (by omega) _ _ _ HB.out⟩
 simp [Act.put,hsz,e4]
theorem placeReq_v (v:Value) (ow oh:Int) (w:World) :
  Calls Tryz.prog 227 #[v,.agg (kZs (ow,oh)).toArray] w fun e w'=>e=.returned (.agg (kZs (ow,oh)).toArray)∧Below w.heap.size w w':=by
 refine kZ7 Tryz.func227 rfl 6 (by simp only [Tryz.ntmps227]) (by simp) (fun t hsz hargs=>?_);have q1:t[1]?=some (.agg (kZs (ow,oh)).toArray):=pZl (by omega) (hargs 1 _ rfl);clear hargs;obtain ⟨l1,e1⟩:=gE q1
 refine jZe fun K hK=>?_
 apply wp_region_lit
 repeat (first|((with_reducible show wpList _ _ _ _ _ _);refine sZa 82 2 rfl rfl bZ9 (fun z hz=>?_)) | go_step)
 refine hK.out _ _ ?_;clear hK K
 refine jZy (fun t' W'=>t'.size=6∧t'[3]?=some (.pointer (some ⟨w.heap.size,0,none⟩))∧t'[4]?=some (.pointer (some ⟨w.heap.size+1,0,none⟩))∧W'.heap[w.heap.size]?=some (.cells (kZs (ow,oh)).toArray 82 (0,0))∧(∃ z:Array Value,W'.heap[w.heap.size+1]?=some (.cells z 82 (0,0))∧z.size=2)∧Below w.heap.size w W') ⟨by simp [Act.put,hsz],by simp [Act.put,hsz],by simp [Act.put,hsz],⟨(Below.heap_alloc _ _ _ (by simp)).trans (newS _ _),⟨z,by have:=newS (w.alloc (.cells (kZs (ow,oh)).toArray 82)) (.cells z 82);simpa using this,hz⟩,(jZd (Below.refl _ _)).trans ((jZd (Below.refl _ _)).mono (by simp))⟩⟩ ?_
 clear hsz q1 l1 e1 t z hz;rintro t W1 ⟨hsz,q3,q4,H1,⟨z,H2,hz⟩,hB⟩;have HR:=hD (show W1.rangeAt w.heap.size 0 (kZs (ow,oh)) from fun j v hj=>by rw [Nat.zero_add];exact (jZc H1 j).trans (by simpa using hj));have HTH:=hD (show W1.there (w.heap.size+1) 0 (kZs (ow,oh)).length from pZb H2 (by rw [hz];show 0+2≤2;omega));have HB:=hD hB;clear H1 H2 hB;obtain ⟨l3,e3⟩:=gE q3;obtain ⟨l4,e4⟩:=gE q4
 refine jZe fun K hK=>?_
 apply wp_region_lit
 repeat (first|((with_reducible show wpList _ _ _ _ _ _);refine ldK 82 _ (kZs (ow,oh)) w.heap.size 0 rfl rfl HR.out Tryz.underlying82 rfl sZm (by simp [Act.eval,Act.put,hsz,e3]) ?_)|((with_reducible show wpList _ _ _ _ _ _);refine stK 82 _ _ (kZs (ow,oh)) (w.heap.size+1) 0 rfl rfl HTH.out sZm (tZb _) (by simp [Act.eval,Act.put,hsz,e4]) (by simp [Act.eval,Act.put,hsz]) ?_) | go_step)
 refine hK.out _ _ ?_;clear hK K;apply wp_ret;refine qZm 4 82 (w.heap.size+1) (kZs (ow,oh)) Tryz.results227 ?_ (World.rangeAt_setCells_same _ _ _ _ HTH.out) Tryz.underlying82 rfl sZm rfl ⟨rfl,jZi (by omega) _ _ _ HB.out⟩
 simp [Act.put,hsz,e4]
def vZh (L1 L2:List Ln) (L3:List Ce):Int × Int:=(sumI (kZl L1 (L3.map acM)),sumI (kZl L2 (L3.map dnM)))
theorem gridReq_v (A1:Option Addr) (c1:Nat) (L1:List Ln) (A2:Option Addr) (c2:Nat) (L2:List Ln) (A3:Option Addr) (c3 n3:Nat) (L3:List Ce) (ow oh:Int) (w:World) (h1:LnV w A1 L1) (h2:LnV w A2 L2) (h3:CeV w A3 L3) (hn:n3=L3.length) (v1:kZd L1=true) (v2:kZd L2=true) (hl8:L3.length≤10) (hsm:∀ p∈L3,smW p) (hs1:pZ7 L1.length (L3.map acM)) (hs2:pZ7 L2.length (L3.map dnM)) :
  Calls Tryz.prog 205 #[.agg #[.slice A1 L1.length c1,.slice A2 L2.length c2,.slice A3 n3 c3],.agg (kZs (ow,oh)).toArray] w fun e w'=>e=.returned (.agg (kZs (vZh L1 L2 L3)).toArray)∧Below w.heap.size w w':=by
 subst hn;have HG:=hD (fun W hb=>eZk A1 c1 L1 A2 c2 L2 A3 c3 L3 W (h1.keep hb) (h2.keep hb) (h3.keep hb) v1 v2 hl8 hsm hs1 hs2);clear h1 h2 h3 v1 v2 hl8 hsm hs1 hs2;refine kZ7 Tryz.func205 rfl 15 (by simp only [Tryz.ntmps205]) (by simp) (fun t hsz hargs=>?_)
 have q0:t[0]?=some (.agg #[.slice A1 L1.length c1,.slice A2 L2.length c2,.slice A3 L3.length c3]):=pZl (by omega) (hargs 0 _ rfl);have q1:t[1]?=some (.agg (kZs (ow,oh)).toArray):=pZl (by omega) (hargs 1 _ rfl);clear hargs;obtain ⟨l0,e0⟩:=gE q0;obtain ⟨l1,e1⟩:=gE q1
 refine jZe fun K hK=>?_
 apply wp_region_lit
 repeat (first|((with_reducible show wpList _ _ _ _ _ _);refine sZa 82 2 rfl rfl bZ9 (fun z hz=>?_)) | go_step)
 refine hK.out _ _ ?_;clear hK K
 refine jZy (fun t' W'=>t'.size=15∧t'[2]?=some (.pointer (some ⟨w.heap.size,0,none⟩))∧t'[4]?=some (.pointer (some ⟨w.heap.size+2,0,none⟩))∧W'.heap[w.heap.size]?=some (.cells #[.slice A1 L1.length c1,.slice A2 L2.length c2,.slice A3 L3.length c3] 149 (0,0))∧(∃ z:Array Value,W'.heap[w.heap.size+2]?=some (.cells z 82 (0,0))∧z.size=2)∧Below w.heap.size w W') ⟨by simp [Act.put,hsz],by simp [Act.put,hsz],by simp [Act.put,hsz],⟨(Below.heap_alloc _ _ _ (by simp;omega)).trans ((Below.heap_alloc _ _ _ (by simp)).trans (newS _ _)),⟨z,by have:=newS ((w.alloc (.cells #[.slice A1 L1.length c1,.slice A2 L2.length c2,.slice A3 L3.length c3] 149)).alloc (.cells (kZs (ow,oh)).toArray 82)) (.cells z 82);simpa using this,hz⟩,(((Below.refl _ w).alloc (Nat.le_refl _) _).alloc (by simp) _).alloc (by simp;omega) _⟩⟩ ?_
 clear hsz q0 l0 e0 q1 l1 e1 t z hz;rintro t W1 ⟨hsz,q2,q4,H1,⟨z,H2,hz⟩,hB⟩;have HB:=hD hB;have HX:=hD H2;have HR:=hD (show W1.rangeAt w.heap.size 0 [.slice A1 L1.length c1,.slice A2 L2.length c2,.slice A3 L3.length c3] from fun j v hj=>by rw [Nat.zero_add];exact (jZc H1 j).trans (by simpa using hj));clear hB H2 H1;obtain ⟨l2,e2⟩:=gE q2;obtain ⟨l4,e4⟩:=gE q4
 refine jZe fun K hK=>?_
 apply wp_region_lit
 repeat (first|((with_reducible show wpList _ _ _ _ _ _);refine ldK 149 _ [.slice A1 L1.length c1,.slice A2 L2.length c2,.slice A3 L3.length c3] w.heap.size 0 rfl rfl HR.out Tryz.underlying149 rfl (by kernel_rfl) (by simp [Act.eval,Act.put,hsz,e2]) ?_) | go_step)
 refine (HG.out _ HB.out).mono ?_;rintro e W2 ⟨rfl,hb2⟩
 dsimp only
 replace HB:=hD (jZa HB.out hb2);replace HX:=hD ((hb2.block _ (ltS HX.out)).trans HX.out);clear hb2 HR
 repeat go_step
 refine hK.out _ _ ?_;clear hK K;refine jZy (fun t' W'=>t'.size=15∧t'[4]?=some (.pointer (some ⟨w.heap.size+2,0,none⟩))∧t'[5]?=some (.int .i64 (vZh L1 L2 L3).1)∧t'[6]?=some (.int .i64 (vZh L1 L2 L3).2)∧W2=W') ⟨by simp [Act.put,hsz],by simp [Act.put,q4],by simp [Act.put,hsz,vZh],by simp [Act.put,hsz,vZh],rfl⟩ ?_;clear hsz q2 l2 e2 q4 l4 e4 t;rintro t _ ⟨hsz,q4,q5,q6,rfl⟩
 have HTH:=hD (show W2.there (w.heap.size+2) 0 (kZs (vZh L1 L2 L3)).length from pZb HX.out (by rw [hz];show 0+2≤2;omega));obtain ⟨l4,e4⟩:=gE q4;obtain ⟨l5,e5⟩:=gE q5;obtain ⟨l6,e6⟩:=gE q6
 refine jZe fun K hK=>?_
 apply wp_region_lit
 repeat (first|((with_reducible show wpList _ _ _ _ _ _);refine stK 82 _ _ (kZs (vZh L1 L2 L3)) (w.heap.size+2) 0 rfl rfl HTH.out sZm (tZb _) (by simp [Act.eval,Act.put,hsz,e4]) (by simp [Act.eval,Act.put,hsz,kZs]) ?_) | go_step)
 refine hK.out _ _ ?_;clear hK K;apply wp_ret;refine qZm 4 82 (w.heap.size+2) (kZs (vZh L1 L2 L3)) Tryz.results205 ?_ (World.rangeAt_setCells_same _ _ _ _ HTH.out) Tryz.underlying82 rfl sZm rfl ⟨rfl,jZi (by omega) _ _ _ HB.out⟩
 simp [Act.put,hsz,e4]
section
open Go.RowKit
set_option linter.unusedVariables false
set_option maxHeartbeats 2000000
def kidB (L : List Nd) (i : Int) (k : Nat) : Bool := match L[k]? with
  | some n => n.pa == i
  | none => false
def kidD (L : List Nd) (i : Nat) : List Nat := idsN (kidB L (i : Int)) L.length
theorem hZx (R : List Nr) (i : Int) (k : Nat) : sZb R i k = kidB (R.map Nr.n) i k := by
  unfold sZb kidB
  rw [List.getElem?_map]
  cases R[k]? <;> rfl
theorem kidsN_eq (R : List Nr) (i : Nat) : kidsN R (i : Int) = kidD (R.map Nr.n) i := by
  unfold kidsN kidD
  rw [show sZb R (i : Int) = kidB (R.map Nr.n) (i : Int) from funext fun k => hZx R _ k, List.length_map]
theorem eZv (R : List Nr) (i : Nat) : kidsM R (i : Int) = (kidD (R.map Nr.n) i).map fun (k : Nat) => (k : Int) := by
  show (kidsN R (i : Int)).map _ = _
  rw [kidsN_eq]
theorem rZb {L : List Nd} {i k : Nat} (h : k ∈ kidD L i) : k < L.length := idsN_lt k h
theorem bZv {L : List Nd} {i k : Nat} {n : Nd} (h : k ∈ kidD L i) (hn : L[k]? = some n) : n.pa = (i : Int) := by
  have := (List.mem_filter.1 h).2
  unfold kidB at this
  rw [hn] at this
  simpa using this
theorem sZo (L : List Nd) (i : Nat) : (kidD L i).length ≤ L.length := by
  unfold kidD idsN
  exact Nat.le_trans (List.length_filter_le _ _) (by simp)
def pkOf (m : Nd) (q : Int × Int) : Pk := { m.pk with w := q.1, h := q.2 }
def ceOf (m : Nd) (q : Int × Int) : Ce := { m.ce with cw := q.1, ch := q.2 }
def pksF (L : List Nd) (f : Nat → Int × Int) (ks : List Nat) : List Pk := ks.filterMap fun k => (L[k]?).map fun m => pkOf m (f k)
def cesF (L : List Nd) (f : Nat → Int × Int) (ks : List Nat) : List Ce := ks.filterMap fun k => (L[k]?).map fun m => ceOf m (f k)
def askN (L : List Nd) (f : Nat → Int × Int) (i : Nat) (n : Nd) : Int × Int :=
  if n.ke = true ∨ kidD L i = [] ∨ n.ki = 2 then (n.ww, n.hh)
  else if n.ki = 0 then reqM (pksF L f (kidD L i)) else vZh n.cs n.rs (cesF L f (kidD L i))
def szF (L : List Nd) : Nat → Nat → Int × Int
  | 0, _ => (0, 0)
  | f + 1, i => match L[i]? with
    | none => (0, 0)
    | some n => askN L (szF L f) i n
def szM (L : List Nd) (i : Nat) : Int × Int := szF L L.length i
theorem sZy {α β : Type} {f g : α → Option β} {l : List α} (h : ∀ x ∈ l, f x = g x) : l.filterMap f = l.filterMap g := by
  induction l with
  | nil => rfl
  | cons a t ih =>
    simp only [List.filterMap_cons, h a List.mem_cons_self]
    rw [ih (fun x hx => h x (List.mem_cons_of_mem _ hx))]
theorem pksF_congr {L : List Nd} {f g : Nat → Int × Int} {ks : List Nat} (h : ∀ k ∈ ks, f k = g k) : pksF L f ks = pksF L g ks := sZy fun k hk => by rw [h k hk]
theorem cesF_congr {L : List Nd} {f g : Nat → Int × Int} {ks : List Nat} (h : ∀ k ∈ ks, f k = g k) : cesF L f ks = cesF L g ks := sZy fun k hk => by rw [h k hk]
theorem dZq {L : List Nd} {f g : Nat → Int × Int} {i : Nat} {n : Nd} (h : ∀ k ∈ kidD L i, f k = g k) : askN L f i n = askN L g i n := by
  unfold askN
  rw [pksF_congr h, cesF_congr h]
structure TrOK (L : List Nd) : Prop where
  l1 : 1 ≤ L.length
  l10 : L.length ≤ 10
  up : ∀ (k : Nat) (n : Nd), L[k]? = some n → (k = 0 ∧ n.pa = -1) ∨ (0 < k ∧ 0 ≤ n.pa ∧ n.pa < (k : Int))
  sz : ∀ (k : Nat) (n : Nd), L[k]? = some n → (0 ≤ n.ww ∧ n.ww ≤ 30) ∧ (0 ≤ n.hh ∧ n.hh ≤ 30) ∧ (n.ki = 0 ∨ n.ki = 1 ∨ n.ki = 2)
  pk : ∀ (k : Nat) (n : Nd), L[k]? = some n → n.pk.ok = true
  pl : ∀ (k : Nat) (n : Nd), L[k]? = some n → plB n.pl = true
  li : ∀ (k : Nat) (n : Nd), L[k]? = some n → n.ki = 1 → kZd n.cs = true ∧ kZd n.rs = true
  ce : ∀ (k : Nat) (n u : Nd), L[k]? = some n → 0 < k → L[n.pa.toNat]? = some u → u.ki = 1 → rZa u.cs.length u.rs.length n.ce = true
theorem vZq {L : List Nd} (h : TrOK L) {i k : Nat} (hk : k ∈ kidD L i) : i < k := by
  have e := List.getElem?_eq_getElem (rZb hk)
  have hp := bZv hk e
  rcases h.up k _ e with ⟨_, h2⟩ | ⟨_, h2, h3⟩
  · omega
  · omega
theorem szF_fuel {L : List Nd} (h : TrOK L) : ∀ (f g i : Nat), L.length ≤ f + i → L.length ≤ g + i → szF L f i = szF L g i := by
  intro f
  induction f with
  | zero =>
    intro g i h1 h2
    cases g with
    | zero => rfl
    | succ g =>
      have : L[i]? = none := List.getElem?_eq_none (by omega)
      simp [szF, this]
  | succ f ih =>
    intro g i h1 h2
    cases g with
    | zero =>
      have : L[i]? = none := List.getElem?_eq_none (by omega)
      simp [szF, this]
    | succ g =>
      cases hn : L[i]? with
      | none => simp [szF, hn]
      | some n =>
        simp only [szF, hn]
        exact dZq fun k hk => ih g k (by have := vZq h hk; omega) (by have := vZq h hk; omega)
theorem szM_eq {L : List Nd} (h : TrOK L) {i : Nat} {n : Nd} (hn : L[i]? = some n) : szM L i = askN L (szM L) i n := by
  have hi := (List.getElem?_eq_some_iff.1 hn).1
  obtain ⟨m, hm⟩ : ∃ m, L.length = m + 1 := ⟨L.length - 1, by omega⟩
  show szF L L.length i = _
  rw [hm]
  simp only [szF, hn]
  exact dZq fun k hk => by
    have := vZq h hk
    exact szF_fuel h m L.length k (by omega) (by omega)
def mxB : Nat → Int
  | 0 => 30
  | f + 1 => 10 * (mxB f + 20) + 150
theorem mxB_nn : ∀ f, 30 ≤ mxB f
  | 0 => by simp [mxB]
  | f + 1 => by have := mxB_nn f; simp only [mxB]; omega
theorem mxB_le : ∀ {f g : Nat}, f ≤ g → mxB f ≤ mxB g
  | f, 0, h => by obtain rfl : f = 0 := by omega
                  exact Int.le_refl _
  | f, g + 1, h => by
    by_cases e : f = g + 1
    · subst e; exact Int.le_refl _
    · have := mxB_le (f := f) (g := g) (by omega)
      have := mxB_nn g
      simp only [mxB]; omega
theorem reqM_gen {M : Int} : ∀ {L : List Pk}, (∀ p ∈ L, ∀ d, 0 ≤ p.need d ∧ p.need d ≤ M) → 0 ≤ (reqM L).1 ∧ (reqM L).1 ≤ M * L.length ∧ 0 ≤ (reqM L).2 ∧ (reqM L).2 ≤ M * L.length
  | [], _ => by simp [reqM]
  | p :: t, h => by
    obtain ⟨a1, a2, a3, a4⟩ := reqM_gen (L := t) (fun q hq => h q (List.mem_cons_of_mem _ hq))
    have n1 := h p List.mem_cons_self false
    have n2 := h p List.mem_cons_self true
    have m1 := kZc (reqM t).1 (p.need false)
    have m2 := kZc (reqM t).2 (p.need true)
    have e : M * ((t.length + 1 : Nat) : Int) = M * (t.length : Int) + M := by rw [Int.natCast_add, Int.mul_add]; simp
    simp only [reqM, List.length_cons]
    rw [e]
    have hM : 0 ≤ M := by omega
    split <;> (dsimp only; omega)
theorem mem_pksF {L : List Nd} {f : Nat → Int × Int} {ks : List Nat} {p : Pk} (h : p ∈ pksF L f ks) : ∃ k m, k ∈ ks ∧ L[k]? = some m ∧ p = pkOf m (f k) := by
  obtain ⟨k, hk, e⟩ := List.mem_filterMap.1 h
  cases hm : L[k]? with
  | none => rw [hm] at e; cases e
  | some m => rw [hm] at e; exact ⟨k, m, hk, hm, by simpa using e.symm⟩
theorem mem_cesF {L : List Nd} {f : Nat → Int × Int} {ks : List Nat} {p : Ce} (h : p ∈ cesF L f ks) : ∃ k m, k ∈ ks ∧ L[k]? = some m ∧ p = ceOf m (f k) := by
  obtain ⟨k, hk, e⟩ := List.mem_filterMap.1 h
  cases hm : L[k]? with
  | none => rw [hm] at e; cases e
  | some m => rw [hm] at e; exact ⟨k, m, hk, hm, by simpa using e.symm⟩
theorem pksF_len (L : List Nd) (f : Nat → Int × Int) (ks : List Nat) : (pksF L f ks).length ≤ ks.length := List.length_filterMap_le _ _
theorem hZ7 (L : List Nd) (f : Nat → Int × Int) (ks : List Nat) : (cesF L f ks).length ≤ ks.length := List.length_filterMap_le _ _
theorem pk_bd {L : List Nd} (h : TrOK L) {f : Nat → Int × Int} {ks : List Nat} {M : Int} (hf : ∀ k ∈ ks, (0 ≤ (f k).1 ∧ (f k).1 ≤ M) ∧ (0 ≤ (f k).2 ∧ (f k).2 ≤ M)) : ∀ p ∈ pksF L f ks, ((0 ≤ p.w ∧ p.w ≤ M) ∧ (0 ≤ p.h ∧ p.h ≤ M) ∧ (0 ≤ p.s ∧ p.s ≤ 3) ∧ (0 ≤ p.an ∧ p.an ≤ 8) ∧ (0 ≤ p.px ∧ p.px ≤ 10) ∧ (0 ≤ p.py ∧ p.py ≤ 10)) := fun p hp => by
  obtain ⟨k, m, hk, hm, rfl⟩ := mem_pksF hp
  have := vpB_iff.1 (h.pk k m hm)
  have := hf k hk
  unfold pkOf
  dsimp only
  omega
theorem ce_bd {L : List Nd} (h : TrOK L) {i : Nat} {n : Nd} (hn : L[i]? = some n) (h1 : n.ki = 1) {f : Nat → Int × Int} {M : Int} (hf : ∀ k ∈ kidD L i, (0 ≤ (f k).1 ∧ (f k).1 ≤ M) ∧ (0 ≤ (f k).2 ∧ (f k).2 ≤ M)) :
    ∀ p ∈ cesF L f (kidD L i), ((0 ≤ p.cw ∧ p.cw ≤ M) ∧ (0 ≤ p.ch ∧ p.ch ≤ M)) ∧ ((0 ≤ p.px ∧ p.px ≤ 10) ∧ (0 ≤ p.py ∧ p.py ≤ 10)) ∧ (0 ≤ p.co ∧ 1 ≤ p.mc ∧ p.co + p.mc ≤ n.cs.length) ∧ (0 ≤ p.ro ∧ 1 ≤ p.mr ∧ p.ro + p.mr ≤ n.rs.length) ∧ (0 ≤ p.sk ∧ p.sk ≤ 15) := fun p hp => by
  obtain ⟨k, m, hk, hm, rfl⟩ := mem_cesF hp
  have hpa := bZv hk hm
  have hgt := vZq h hk
  have hc := h.ce k m n hm (by omega) (by rw [hpa]; simpa using hn) h1
  simp only [rZa, runB, Bool.and_eq_true, pZa] at hc
  have := hf k hk
  unfold ceOf
  dsimp only
  omega
theorem askN_bd {L : List Nd} (h : TrOK L) {i : Nat} {n : Nd} (hn : L[i]? = some n) {f : Nat → Int × Int} {M : Int} (h30 : 30 ≤ M) (hM : M ≤ 1000000000000) (hf : ∀ k ∈ kidD L i, (0 ≤ (f k).1 ∧ (f k).1 ≤ M) ∧ (0 ≤ (f k).2 ∧ (f k).2 ≤ M)) :
    (0 ≤ (askN L f i n).1 ∧ (askN L f i n).1 ≤ 10 * (M + 20) + 150) ∧ (0 ≤ (askN L f i n).2 ∧ (askN L f i n).2 ≤ 10 * (M + 20) + 150) := by
  have hs := h.sz i n hn
  have hkl := sZo L i
  have hl := h.l10
  unfold askN
  split
  · dsimp only; omega
  · rename_i hc
    split
    · have hp := pk_bd h hf
      obtain ⟨a1, a2, a3, a4⟩ := reqM_gen (M := M + 20) (L := pksF L f (kidD L i)) (fun p hq d => by have := hp p hq; unfold Pk.need; split <;> omega)
      have hl2 := pksF_len L f (kidD L i)
      have e : (M + 20) * ((pksF L f (kidD L i)).length : Int) ≤ (M + 20) * 10 := Int.mul_le_mul_of_nonneg_left (by omega) (by omega)
      omega
    · rename_i h0
      have h1 : n.ki = 1 := by
        rcases hs.2.2 with e | e | e
        · exact absurd e h0
        · exact e
        · exact absurd (.inr (.inr e)) hc
      have hp := ce_bd h hn h1 hf
      obtain ⟨v1, v2⟩ := h.li i n hn h1
      have hl2 := hZ7 L f (kidD L i)
      have w1 : ∀ s ∈ (cesF L f (kidD L i)).map acM, vZf n.cs.length s ∧ s.need ≤ M + 20 := fun s hs' => by
        obtain ⟨p, hpm, rfl⟩ := List.mem_map.1 hs'
        have := hp p hpm
        refine ⟨⟨p.co.toNat, p.mc.toNat, ?_, ?_, ?_, ?_, ?_, ?_⟩, ?_⟩ <;> first | omega | (unfold acM; dsimp only; omega)
      have w2 : ∀ s ∈ (cesF L f (kidD L i)).map dnM, vZf n.rs.length s ∧ s.need ≤ M + 20 := fun s hs' => by
        obtain ⟨p, hpm, rfl⟩ := List.mem_map.1 hs'
        have := hp p hpm
        refine ⟨⟨p.ro.toNat, p.mr.toNat, ?_, ?_, ?_, ?_, ?_, ?_⟩, ?_⟩ <;> first | omega | (unfold dnM; dsimp only; omega)
      have b1 := vZ8 v1 ⟨by simp; omega, fun s hs' => (w1 s hs').1⟩
      have b2 := vZ8 v2 ⟨by simp; omega, fun s hs' => (w2 s hs').1⟩
      have c1 := uZj (n := n.cs.length) (B := M + 20) (by omega) (fun s hs' => (w1 s hs').2)
      have c2 := uZj (n := n.rs.length) (B := M + 20) (by omega) (fun s hs' => (w2 s hs').2)
      have z1 := kZ9 b1.2.1
      have z2 := kZ9 b2.2.1
      rw [List.length_map] at c1 c2
      have e : (M + 20) * ((cesF L f (kidD L i)).length : Int) ≤ (M + 20) * 10 := Int.mul_le_mul_of_nonneg_left (by omega) (by omega)
      have y1 := b1.2.2
      have y2 := b2.2.2
      unfold vZh
      dsimp only
      omega
theorem szF_bd {L : List Nd} (h : TrOK L) : ∀ (f i : Nat), f ≤ 10 → (0 ≤ (szF L f i).1 ∧ (szF L f i).1 ≤ mxB f) ∧ (0 ≤ (szF L f i).2 ∧ (szF L f i).2 ≤ mxB f) := by
  intro f
  induction f with
  | zero => intro i _; simp [szF, mxB]
  | succ f ih =>
    intro i hf
    have hb : mxB f ≤ 1000000000000 := Int.le_trans (mxB_le (show f ≤ 9 by omega)) (by decide)
    have h30 := mxB_nn f
    cases hn : L[i]? with
    | none => simp only [szF, hn, mxB]; omega
    | some n =>
      simp only [szF, hn, mxB]
      exact askN_bd h hn h30 hb (fun k _ => ih k (by omega))
theorem szM_bd {L : List Nd} (h : TrOK L) (i : Nat) : (0 ≤ (szM L i).1 ∧ (szM L i).1 ≤ 1000000000000) ∧ (0 ≤ (szM L i).2 ∧ (szM L i).2 ≤ 1000000000000) := by
  have hb := szF_bd h L.length i h.l10
  have : mxB L.length ≤ 1000000000000 := Int.le_trans (mxB_le h.l10) (by decide)
  unfold szM
  omega
end
theorem idsM_one {f:Nat→Bool} (h:f 0=false):idsM f 1=[]:=by rw [eZn h];rfl
theorem gZf (A:Option Addr) (c:Nat) (R:List Nr) (i:Int) (w:World) (h:NrV w A R) (h1:1≤R.length) (hL:R.length≤1048576) (hz:sZb R i 0=false) :
  Calls Tryz.prog 89 #[.agg #[.slice A R.length c],.int .i64 i] w fun e w'=>(∃ v,e=.returned v∧KdV w' v (kidsM R i)∧∀ k,v.ownBlock=some k→w.heap.size≤k)∧Below w.heap.size w w':=by
 obtain ⟨ti,tz,ti1,ti2,ti3,ti4,ti5⟩:=rZx;obtain ⟨b,off,rfl,hb,hc⟩:=h.cells h1;have HC:=hD hc;clear hc h;refine kZ7 Tryz.func89 rfl 28 (by simp only [Tryz.ntmps89]) (by simp) (fun t hsz hargs=>?_);have q0:t[0]?=some (.agg #[.slice (some ⟨b,off,none⟩) R.length c]):=pZl (by omega) (hargs 0 _ rfl);have q1:t[1]?=some (.int .i64 i):=pZl (by omega) (hargs 1 _ rfl);clear hargs
 obtain ⟨l0,e0⟩:=gE q0;obtain ⟨l1,e1⟩:=gE q1
 refine jZe fun K hK=>?_
 apply wp_region_lit
 repeat (first | go_step)
 refine hK.out _ _ ?_;clear hK K;refine jZy (fun t' W'=>t'.size=28∧t'[1]?=some (.int .i64 i)∧t'[2]?=some (.pointer (some ⟨w.heap.size,0,none⟩))∧W'.heap[w.heap.size]?=some (.cells #[.slice (some ⟨b,off,none⟩) R.length c] 25 (0,0))∧Below w.heap.size w W') ⟨by simp [Act.put,hsz],by simp [Act.put,q1],by simp [Act.put,hsz],⟨newS _ _,jZd (Below.refl _ _)⟩⟩ ?_;clear hsz q0 l0 e0 q1 l1 e1 t
 rintro t Wb ⟨hsz,q1,q2,HX,hB0⟩;have HXX:=hD HX;have HB0:=hD hB0;replace HC:=hD (show ∀ k p,R[k]?=some p→Wb.rangeAt b (off+k*34) (jZj p) from fun k p hk=>pZi (HC.out k p hk) (hB0.block b hb));have hbl:b<Wb.heap.size:=Nat.lt_of_lt_of_le hb hB0.size;have lxb:w.heap.size<Wb.heap.size:=ltS HX;clear HX hB0 hb;obtain ⟨l1,e1⟩:=gE q1;obtain ⟨l2,e2⟩:=gE q2
 refine jZe fun K hK=>?_
 apply wp_region_lit
 repeat (first | go_step)
 refine hK.out _ _ ?_;clear hK K
 refine jZy (fun t' W'=>t'.size=28∧t'[1]?=some (.int .i64 i)∧t'[2]?=some (.pointer (some ⟨w.heap.size,0,none⟩))∧t'[5]?=some (.slice (some ⟨Wb.heap.size,0,none⟩) 0 0)∧W'.ownsRow Wb.heap.size 3 1 (.slice (some ⟨Wb.heap.size,0,none⟩) 0 0) 0 (kZt [])∧Below Wb.heap.size Wb W') ⟨by simp [Act.put,hsz],by simp [Act.put,q1],by simp [Act.put,q2],by simp [Act.put,hsz],⟨World.ownsRow_lit (base:=Wb.heap.size) (e:=3) (size:=1) Wb #[] 0 (Nat.le_refl _) (by decide) rfl,jZd (Below.refl _ _)⟩⟩ ?_
 clear hsz q1 l1 e1 q2 l2 e2 t;rintro t W0 ⟨hsz,q1,q2,q5,hO,hB⟩
 refine jZe fun KE hKE=>?_
 obtain ⟨l1,e1⟩:=gE q1;obtain ⟨l2,e2⟩:=gE q2;obtain ⟨l5,e5⟩:=gE q5
 refine jZe fun K hK=>?_
 apply wp_region_lit
 repeat (first | go_step)
 refine hK.out _ _ ?_;clear hK K;refine jZy (fun t' W'=>t'.size=28∧t'[1]?=some (.int .i64 i)∧t'[2]?=some (.pointer (some ⟨w.heap.size,0,none⟩))∧t'[5]?=some (.slice (some ⟨Wb.heap.size,0,none⟩) 0 0)∧t'[6]?=some (.int .i64 ((1:Nat):Int))∧W0=W') ⟨by simp [Act.put,hsz],by simp [Act.put,q1],by simp [Act.put,q2],by simp [Act.put,q5],by simp [Act.put,hsz],rfl⟩ ?_;clear hsz q1 l1 e1 q2 l2 e2 q5 l5 e5 t
 rintro t _ ⟨hsz,q1,q2,q5,q6,rfl⟩;apply wp_block
 refine wp_loop (fun a W=>∃ (t:Array Value) (k:Nat) (v:Value),a=⟨t,[]⟩∧1≤k∧k≤R.length∧t.size=28∧t[1]?=some (.int .i64 i)∧t[2]?=some (.pointer (some ⟨w.heap.size,0,none⟩))∧t[5]?=some (v)∧t[6]?=some (.int .i64 (k:Int))∧W.ownsRow Wb.heap.size 3 1 v (idsM (sZb R i) k).length (kZt (idsM (sZb R i) k))∧Below Wb.heap.size Wb W) (fun a _=>R.length-(intOf (a.tmps.getD 6 undef)).toNat) ⟨t,1,_,rfl,by omega,h1,hsz,q1,q2,q5,q6,by rw [idsM_one hz];exact hO,hB⟩ ?_
 clear t hsz q1 q2 q5 q6 hO hB W0;rintro a W ⟨t,k,v,rfl,hk1,hk,hsz,q1,q2,q5,q6,hO,hB⟩
 have hmu:intOf (t.getD 6 undef)=(k:Int):=by rw [Array.getD_eq_getD_getElem?,q6];rfl
 dsimp only
 rw [hmu];clear hmu;have HO:=hD hO;have HB:=hD hB;have x0:=jZc ((hB.block _ lxb).trans HXX.out) 0;have lx:w.heap.size<W.heap.size:=Nat.lt_of_lt_of_le lxb hB.size;clear hO hB
 by_cases hlt:k<R.length
 ·have hd:decide ((k:Int)<(R.length:Int))=true:=by simpa using hlt
  refine jZe fun K1 hK1=>?_
  obtain ⟨l1,e1⟩:=gE q1;obtain ⟨l2,e2⟩:=gE q2;obtain ⟨l5,e5⟩:=gE q5;obtain ⟨l6,e6⟩:=gE q6
  refine jZe fun K hK=>?_
  apply wp_region_lit
  repeat (first | go_step)
  refine hK.out _ _ ?_;clear hK K;refine jZy (fun t' W'=>t'.size=28∧t'[1]?=some (.int .i64 i)∧t'[2]?=some (.pointer (some ⟨w.heap.size,0,none⟩))∧t'[5]?=some (v)∧t'[6]?=some (.int .i64 (k:Int))∧t'[12]?=some (.bool true)∧W=W') ⟨by simp [Act.put,hsz],by simp [Act.put,q1],by simp [Act.put,q2],by simp [Act.put,q5],by simp [Act.put,q6],by simp [Act.put,hsz,hd],rfl⟩ ?_
  clear hsz q1 l1 e1 q2 l2 e2 q5 l5 e5 q6 l6 e6 t;rintro t _ ⟨hsz,q1,q2,q5,q6,q12,rfl⟩;clear hd;refine wp_cond_true (by simp [Act.eval,q12]) ?_;apply wp_skip;simp only [Exit.then];refine hK1.out _ _ ?_;clear hK1 K1 q12
  refine jZe fun KB hKB=>?_
  apply wp_block;have hget:R[k]?=some R[k]:=List.getElem?_eq_getElem hlt;have c0:W.cell? ⟨b,off+k*34,none⟩=some (.int .i64 R[k].n.pa):=(HB.out.cell (p:=⟨b,off+k*34,none⟩) hbl).trans (HC.out k _ hget 0 _ rfl);have hik:=hZv (i:=i) hget;generalize R[k]=p at *
  have hd1:(k:Int)<(R.length:Int):=by omega
  have hbl1:b<W.heap.size:=Nat.lt_of_lt_of_le hbl HB.out.size;have HIK:=hD hik;clear hget hik;obtain ⟨l1,e1⟩:=gE q1;obtain ⟨l2,e2⟩:=gE q2;obtain ⟨l5,e5⟩:=gE q5;obtain ⟨l6,e6⟩:=gE q6
  refine jZe fun K hK=>?_
  apply wp_region_lit
  repeat (first | go_step)
  refine hK.out _ _ ?_;clear hK K;refine jZy (fun t' W'=>t'.size=28∧t'[1]?=some (.int .i64 i)∧t'[2]?=some (.pointer (some ⟨w.heap.size,0,none⟩))∧t'[5]?=some (v)∧t'[6]?=some (.int .i64 (k:Int))∧t'[22]?=some (.bool (sZb R i k))∧W=W') ⟨by simp [Act.put,hsz],by simp [Act.put,q1],by simp [Act.put,q2],by simp [Act.put,q5],by simp [Act.put,q6],by simp [Act.put,hsz,HIK.out],rfl⟩ ?_
  clear hsz q1 l1 e1 q2 l2 e2 q5 l5 e5 q6 l6 e6 t c0 hd1 hbl1;rintro t _ ⟨hsz,q1,q2,q5,q6,q22,rfl⟩
  by_cases hfk:sZb R i k=true
  ·have hids:=eZi hfk;rw [hfk] at q22;refine wp_cond_true (by simp [Act.eval,q22]) ?_;clear q22;obtain ⟨l1,e1⟩:=gE q1;obtain ⟨l2,e2⟩:=gE q2;obtain ⟨l5,e5⟩:=gE q5;obtain ⟨l6,e6⟩:=gE q6;have hob:∀ b,v.ownBlock=some b→Wb.heap.size≤b∧b<W.heap.size:=HO.out.lt;have hw1:Wb.heap.size≤W.heap.size:=HB.out.size;have hlen:=vZ4 (sZb R i) k;apply wp_region_lit
   repeat (first|((with_reducible show wpList _ _ _ _ _ _);refine wpList_append_own _ rfl _ _ 47 rfl Wb.heap.size 3 ti tz 1 8 Tryz.underlying47 ti1 ti2 ti3 ti4 ti5 (by decide) v _ _ (by simp [Act.eval,Act.put,hsz,e5]) (HO.out.alloc _) ⟨W.heap.size,0,none⟩ 1 1 [.int .i64 (k:Int)] (by simp [Act.eval,Act.put,hsz]) rfl (newW _ _ _) (by simp [Value.oneCell']) (by simp only [maxLen];omega) (by omega) (by simp;omega) ?_) | go_step)
   intro v5 w5 how5 hgr5 _;have hb5:=qZr HB.out hgr5 hob (Nat.le_refl _) (Nat.le_refl _);rw [rZn,<- hids] at how5
   have hlen5:(idsM (sZb R i) k).length+1=(idsM (sZb R i) (k+1)).length:=by rw [hids];simp
   rw [hlen5] at how5;clear hlen5 hids
   repeat go_step
   try simp only [Exit.inBlock]
   refine hKB.out _ _ ?_;clear hKB KB;refine jZy (fun t' W'=>t'.size=28∧t'[1]?=some (.int .i64 i)∧t'[2]?=some (.pointer (some ⟨w.heap.size,0,none⟩))∧t'[5]?=some (v5)∧t'[6]?=some (.int .i64 (k:Int))∧w5=W') ⟨by simp [Act.put,hsz],by simp [Act.put,q1],by simp [Act.put,q2],by simp [Act.put,hsz],by simp [Act.put,q6],rfl⟩ ?_;clear hsz q1 l1 e1 q2 l2 e2 q5 l5 e5 q6 l6 e6 t hob hw1
   rintro t _ ⟨hsz,q1,q2,q5,q6,rfl⟩;obtain ⟨l1,e1⟩:=gE q1;obtain ⟨l2,e2⟩:=gE q2;obtain ⟨l5,e5⟩:=gE q5;obtain ⟨l6,e6⟩:=gE q6;apply wp_region_lit
   repeat go_step
   try simp only [Exit.then]
   refine ⟨⟨_,k+1,v5,rfl,by omega,by omega,by simp [hsz],by simp [q1],by simp [q2],by simp [q5],by simp [hsz],how5,hb5⟩,?_⟩
   ·simp [hsz,intOf]
    omega
  ·have hfk':sZb R i k=false:=by simpa using hfk
   have hids:=eZn hfk';rw [hfk'] at q22;refine wp_cond_false (by simp [Act.eval,q22]) ?_;clear q22;apply wp_skip
   try simp only [Exit.inBlock]
   refine hKB.out _ _ ?_;clear hKB KB;obtain ⟨l1,e1⟩:=gE q1;obtain ⟨l2,e2⟩:=gE q2;obtain ⟨l5,e5⟩:=gE q5;obtain ⟨l6,e6⟩:=gE q6;apply wp_region_lit
   repeat go_step
   try simp only [Exit.then]
   refine ⟨⟨_,k+1,v,rfl,by omega,by omega,by simp [hsz],by simp [q1],by simp [q2],by simp [q5],by simp [hsz],by rw [hids];exact HO.out,HB.out⟩,?_⟩
   ·simp [hsz,intOf]
    omega
 ·have hd:decide ((k:Int)<(R.length:Int))=false:=decide_eq_false (by omega)
  refine jZe fun K1 hK1=>?_
  obtain ⟨l1,e1⟩:=gE q1;obtain ⟨l2,e2⟩:=gE q2;obtain ⟨l5,e5⟩:=gE q5;obtain ⟨l6,e6⟩:=gE q6
  refine jZe fun K hK=>?_
  apply wp_region_lit
  repeat (first | go_step)
  refine hK.out _ _ ?_;clear hK K;refine jZy (fun t' W'=>t'.size=28∧t'[1]?=some (.int .i64 i)∧t'[2]?=some (.pointer (some ⟨w.heap.size,0,none⟩))∧t'[5]?=some (v)∧t'[6]?=some (.int .i64 (k:Int))∧t'[12]?=some (.bool false)∧W=W') ⟨by simp [Act.put,hsz],by simp [Act.put,q1],by simp [Act.put,q2],by simp [Act.put,q5],by simp [Act.put,q6],by simp [Act.put,hsz,hd],rfl⟩ ?_
  clear hsz q1 l1 e1 q2 l2 e2 q5 l5 e5 q6 l6 e6 t;rintro t _ ⟨hsz,q1,q2,q5,q6,q12,rfl⟩;refine wp_cond_false (by simp [Act.eval,q12]) ?_;apply wp_exit;simp only [Exit.then,Exit.inBlock,if_true];refine hKE.out _ _ ?_;clear hd
  obtain rfl:k=R.length:=by omega
  obtain ⟨l1,e1⟩:=gE q1;obtain ⟨l2,e2⟩:=gE q2;obtain ⟨l5,e5⟩:=gE q5;obtain ⟨l6,e6⟩:=gE q6;obtain ⟨l12,e12⟩:=gE q12
  repeat go_step
  refine bodyPost_ret (results_tmp rfl _ _ _) rfl ?_;exact ⟨⟨v,by simp [hsz],KdV.of HO.out,fun k hk=>Nat.le_trans HB0.out.size (HO.out.lt k hk).1⟩,jZa HB0.out HB.out⟩
theorem skidsOf_v (A:Option Addr) (c:Nat) (R:List Nr) (i:Int) (w:World) (h:NrV w A R) (h1:1≤R.length) (hL:R.length≤1048576) (hz:sZb R i 0=false) :
  Calls Tryz.prog 89 #[.agg #[.slice A R.length c],.int .i64 i] w fun e w'=>(∃ v,e=.returned v∧KdV w' v (kidsM R i))∧Below w.heap.size w w' :=
 (gZf A c R i w h h1 hL hz).mono fun e w' ⟨⟨v,e1,e2,_⟩,hb⟩=>⟨⟨v,e1,e2⟩,hb⟩
section
section
variable {P:Program}
def cZq (o:Oper):Bool:=match o.op with
 | .defer _=>false
 | _=>true
theorem noDef_ne {o:Oper} (h:cZq o=true):∀ c,o.op≠.defer c:=fun c e=>by
 unfold cZq at h;rw [e] at h
 cases h
def OnlyN (Q0:Exit→Act→World→Prop):Prop:=∀ e a w,e≠.normal→¬ Q0 e a w
theorem opLift {l n:Nat} {o:Oper} {a:Act} {w:World} {K K':Act→World→Prop} {Q0 Q:Exit→Act→World→Prop} (hd:cZq o=true) (hQ:OnlyN Q0) (hK:∀ a w,K a w→K' a w) (h:o.wp P a w K Q0):o.wpIn (Fence.wide.inRound l) n P a w K' Q:=by
 refine ⟨fun _ _=>trivial,?_⟩;rw [Oper.semAt_eq _ _ _ (noDef_ne hd)];unfold Oper.wp at h;generalize (execOp a.eval o).run P w=r at h
 cases r with
 | ok x w' =>
  cases x with
  | value v=>exact hK _ _ h
  | skip=>exact hK _ _ h
  | defer d=>exact hK _ _ h
  | enter f args =>
   refine ⟨(fun x=>by cases x),CallsIn.inRound l (callsIn_wide.2 (Calls.mono h ?_))⟩;intro e w2 he
   cases e with
   | returned v=>exact hK _ _ he
   | panicked c=>exact (hQ (.panic c) _ _ (fun x=>by cases x) he).elim
   | outgrown =>
    obtain ⟨a2,w3,h3⟩:=he;exact (hQ .outgrown _ _ (fun x=>by cases x) h3).elim
  | row r args =>
   refine ⟨(fun x=>by cases x),fun c cs _=>?_⟩;obtain ⟨v,w2,h1,h2⟩:=h c cs;exact ⟨v,w2,hK _ _ h1,by rw [fenced_inRound];exact stepsIn_wide.2 h2⟩
  | _=>exact h.elim
 | halt x w' =>
  cases x with
  | panic v=>exact (hQ (.panic _) _ _ (fun x=>by cases x) h).elim
  | _=>exact h.elim
theorem lets_no {Q0:Exit→Act→World→Prop} (hQ:OnlyN Q0):¬ LetsOut Q0:=fun ⟨a,w,h⟩=>hQ _ _ _ (fun x=>by cases x) h
theorem anyLift {l n:Nat} {md:Region.Mode} {ops:Array Oper} {Q0 Q:Exit→Act→World→Prop} (hd:ops.all cZq=true) (hQ:OnlyN Q0) (hN:∀ a w,Q0 .normal a w→Q .normal a w):∀ (fuel:Nat) (listed:Array Bool) (a:Act) (w:World),wpAny P md ops Q0 fuel listed a w→wpAnyIn (Fence.wide.inRound l) n P md ops Q fuel listed a w:=by
 intro fuel
 induction fuel with
 | zero=>exact fun listed a w h=>⟨h.1,hN _ _ h.2⟩
 | succ fuel ih =>
  intro listed a w h;refine ⟨fun hr=>hN _ _ (h.1 hr),fun i hi=>?_⟩;have h1:=h.2 i hi;unfold wpOp at h1;unfold wpOpIn
  cases ho:ops[i]? with
  | none=>simp only [ho] at h1 ⊢;exact ih _ _ _ h1
  | some o =>
   simp only [ho] at h1 ⊢;have hdo:cZq o=true:=(Array.all_eq_true_iff_forall_mem.1 hd) o (Array.mem_of_getElem? ho)
   split
   ·rename_i hw
    simp only [hw,if_true] at h1
    rcases h1 with h1 | h1
    ·exact opLift hdo hQ (fun a w=>ih _ a w) h1
    ·exact (lets_no hQ h1.2).elim
   ·rename_i hw
    simp only [hw] at h1;exact ⟨fun _ _=>trivial,ih _ _ _ h1⟩
theorem listLift {l n:Nat} {ops:Array Oper} {Q0 Q:Exit→Act→World→Prop} (hQ:OnlyN Q0) (hN:∀ a w,Q0 .normal a w→Q .normal a w):∀ (os:List Oper) (a:Act) (w:World),os.all cZq=true→wpList P ops Q0 os a w→wpListIn (Fence.wide.inRound l) n P ops Q os a w:=by
 intro os
 induction os with
 | nil=>exact fun a w _ h=>hN _ _ h
 | cons o rest ih =>
  intro a w hd h;simp only [List.all_cons,Bool.and_eq_true] at hd;unfold wpList at h;unfold wpListIn
  split
  ·rename_i hw
   rw [if_pos hw] at h
   rcases h with h | h
   ·exact opLift hd.1 hQ (fun a w=>ih a w hd.2) h
   ·exact (lets_no hQ h.2).elim
  ·rename_i hw
   rw [if_neg hw] at h;exact ⟨fun _ _=>trivial,ih _ _ hd.2 h⟩
theorem dZf {K:Act→World→Prop}:OnlyN (Exit.then K (fun _ _ _=>False)):=fun e a w h q=>by
 cases e <;> first | exact h rfl | exact q
theorem qZl {l n id:Nat} {os:List Oper} {Q:Exit→Act→World→Prop} {a:Act} {w:World} (hd:os.all cZq=true) (h:wpList P os.toArray (Exit.then (fun a w=>Q .normal a w) (fun _ _ _=>False)) os a w):(Code.region id os.toArray false).wpIn (Fence.wide.inRound l) n P Q a w :=
 wpIn_region_lit (listLift (Q0:=Exit.then (fun a w=>Q .normal a w) (fun _ _ _=>False)) (Q:=Q) dZf (fun _ _ h=>h) os a w hd h)
theorem rZo {l n id:Nat} {ops:Array Oper} {Q:Exit→Act→World→Prop} {a:Act} {w:World} (hm:P.follows .mixedOrders=true) (hd:ops.all cZq=true) (h:wpAny P .any ops (Exit.then (fun a w=>Q .normal a w) (fun _ _ _=>False)) ops.size (Array.replicate ops.size false) a { w with drawn:=w.drawn+1 }):(Code.region id ops true).wpIn (Fence.wide.inRound l) n P Q a w :=
 wpIn_region_any hm (anyLift (Q0:=Exit.then (fun a w=>Q .normal a w) (fun _ _ _=>False)) (Q:=Q) hd dZf (fun _ _ h=>h) _ _ _ _ h)
theorem rZu {l:List Oper} {Q:Exit→Act→World→Prop} {a0:Act} {w:World} (n1 m:Nat) (listed:Array Bool) (hm:l.length-n1=m) (hls:kZy n1 0 (Array.replicate l.toArray.size false)=listed) (tl:List (Value→World→Prop)) (hB:rgC l a0.tmps.size=true) (hC:cloB l n1=true) (hTs:∀ T∈tl,Stay T)
  (hops:cZf P l (fun k=>tl.getD k XT) Gr GIx a0 w.drew (l.take n1) 0) (hfin:∀ w',Gr w.drew w'→finP (fun k=>tl.getD k XT) w' (fun a'=>wpAny P .any l.toArray Q m listed a' w') (l.take n1) 0 a0):wpAny P .any l.toArray Q l.toArray.size (Array.replicate l.toArray.size false) a0 w.drew:=by
 subst hm hls
 exact fZm (fun k=>tl.getD k XT) Gr GIx n1 hB hC Gr.refl (fun _ _ _ h k=>h.trans k) (uZ3 hTs) trivial hops fun w' h _=>hfin w' h
theorem qZ1 {md:Region.Mode} {ops:Array Oper} {Q:Exit→Act→World→Prop} {f:Nat} {listed:Array Bool} {a:Act} {w:World} (i:Nat) (T:TypeId) (x y:Operand) (b o:Nat) (vs:List Value) (hr:Region.ready md ops listed=[i]) (hr2:Region.ready md ops (listed.setIfInBounds i true)=[]) (ho:(ops[i]?).map (fun o=>(o.dst,o.op,o.guard))=some (none,.store T x y,none))
  (hx:a.eval x=.pointer (some ⟨b,o,none⟩)) (hy:a.eval y=.agg vs.toArray) (ht:w.there b o vs.length) (hi:(P.info? T).map (·.size)=some vs.length) (h1:∀ v∈vs,v.oneCell'=true)
  (h:Q .normal a (w.setCells b o vs)):wpAny P md ops Q (f+1) listed a w:=by
 cases hq:ops[i]? with
 | none=>rw [hq] at ho;cases ho
 | some op =>
  rw [hq] at ho;simp only [Option.map_some,Option.some.injEq,Prod.mk.injEq] at ho;obtain ⟨hd,hop,hg⟩:=ho;refine jZn hr hq hg ?_;refine wp_store_mid T x y hop b o vs.toArray hx hy (by simpa using ht) (by simpa using hi) (all_oneCell_toArray h1) ?_;rw [hd];exact jZq hr2 (by simpa [Act.put] using h)
end
end
section
attribute [local go_sem] jZ0 jZ5 jZ2
theorem hZ1 {k:Nat}:∀ {R:List (List Value)} {i j:Nat} {vs:List Value} {u:Value},(∀ vs∈R,vs.length=k)→R[i]?=some vs→vs[j]?=some u→R.flatten[i*k+j]?=some u
 | x :: t,0,j,vs,u,hl,h,hj=>by
  simp at h
  subst h
  have:=(List.getElem?_eq_some_iff.1 hj).1
  rw [Nat.zero_mul,Nat.zero_add,List.flatten_cons,List.getElem?_append_left this];exact hj
 | x :: t,i+1,j,vs,u,hl,h,hj=>by
  have hx:=hl x List.mem_cons_self;rw [List.getElem?_cons_succ] at h
  have:=hZ1 (fun vs hv=>hl vs (List.mem_cons_of_mem _ hv)) h hj
  rw [List.flatten_cons,List.getElem?_append_right (by rw [hx,Nat.add_mul];omega),hx,show (i+1)*k+j-k=i*k+j from by rw [Nat.add_mul];omega];exact this
theorem own_rvK {w:World} {base k n:Nat} {T:TypeId} {v:Value} {R:List (List Value)} (h:w.ownsRow base T k v n R.flatten) (hn:n=R.length) (hl:∀ vs∈R,vs.length=k):∃ A c,v=.slice A n c∧RvK k w A R∧n≤c:=by
 rcases h.2 with ⟨rfl,h0⟩ | ⟨g,cap,cur,rfl,hb,hg,hc,_,hs,ht⟩
 ·have:R=[]:=List.length_eq_zero_iff.1 (by omega)
  subst this;exact ⟨none,0,by rw [h0],RvK.nil _ _ _,by omega⟩
 ·refine ⟨_,cap,rfl,fun _=>⟨g,0,rfl,ltS hg,fun i vs hi j u hj=>?_⟩,hc⟩;have hil:=(List.getElem?_eq_some_iff.1 hi).1;have hjl:=(List.getElem?_eq_some_iff.1 hj).1;have hvl:=hl vs (List.mem_of_getElem? hi);have e:=hZ1 hl hi hj;rw [<- ht,List.getElem?_take] at e
  split at e
  ·rw [Nat.zero_add];exact (jZc hg _).trans (by simpa using e)
  ·cases e
theorem newK (W:World) (vs:List Value) (T:TypeId):∀ (j:Nat) (u:Value),vs[j]?=some u→(W.alloc (.cells vs.toArray T)).cell? ((⟨W.heap.size,0,none⟩:Addr).add j)=some u:=fun j u h=>by
 have hadd:(⟨W.heap.size,0,none⟩:Addr).add j=⟨W.heap.size,j,none⟩:=by unfold Addr.add;split <;> simp_all
 rw [hadd];exact (jZc (newS W _) j).trans (by simpa using h)
theorem eZo {w:World} {g k:Nat} {z:Array Value} {T:TypeId} (h:w.heap[g]?=some (.cells z T (0,0))) (hz:z.size=k) (vs:List Value) (hv:vs.length=k):(w.setCells g 0 vs).heap[g]?=some (.cells vs.toArray T (0,0)):=by
 rw [jZ4 vs 0 w z h]
 congr 2
 apply Array.ext
 ·rw [pZ6,hz];simp [hv]
 ·intro i h1 h2
  have:=eZa vs z 0 i (by omega) (by simpa using h2)
  rw [Nat.zero_add,Array.getElem?_eq_getElem h1] at this;rw [List.getElem?_eq_getElem (by simpa using h2)] at this
  simpa using this
theorem bZy {w w':World} {base g:Nat} {e:TypeId} {size:Nat} {v:Value} {n:Nat} {xs:List Value} (h:w.ownsRow base e size v n xs) (hg:w.grownBy w' (some g)) (hne:v.ownBlock=some g→False):w'.ownsRow base e size v n xs :=
 h.kept hg (.inr hne)
theorem vZw {a w w':World} {g n:Nat} (hb:Below n a w) (hg:w.grownBy w' (some g)) (hle:n≤g) (hn:n≤w.heap.size):Below n a w' :=
 ⟨hg.os.trans hb.os,hg.tape.trans hb.tape,hg.output.trans hb.output,Nat.le_trans hb.size hg.size,fun k hk=>(hg.block k (Nat.lt_of_lt_of_le hk hn) (fun e=>by have:=Option.some.inj e;omega)).trans (hb.block k hk)⟩
def BxZ (w:World) (v:Value) (lo:Nat) (T:TypeId) (k:Nat):Prop:=∃ (g:Nat) (z:Array Value),v=.pointer (some ⟨g,0,none⟩)∧lo≤g∧w.heap[g]?=some (.cells z T (0,0))∧z.size=k
theorem BxZ.keep {w w':World} {v:Value} {lo:Nat} {T:TypeId} {k:Nat} (h:BxZ w v lo T k) (hb:Below w.heap.size w w'):BxZ w' v lo T k:=let ⟨g,z,e,hl,hh,hz⟩:=h;⟨g,z,e,hl,(hb.block _ (ltS hh)).trans hh,hz⟩
theorem vZg {P:Program} {T:TypeId} {k:Nat} (w:World) (hi:∃ i z,P.info? T=some i∧i.zero=some z∧z.cells.size=k):∃ f:Array Value,f.size=k∧(Instr.alloc T true (.tuple #[])).run P w=.ok (.pointer (some ⟨w.heap.size,0,none⟩)) (w.alloc (.cells f T)):=by
 obtain ⟨i,z,h1,h2,h3⟩:=hi;exact ⟨z.cells,h3,by simp [Instr.alloc,zeroValue,typeInfo,h1,h2,newVar,go_sem]⟩
theorem info_own {P:Program} {T:TypeId} {k b:Nat} (h:(P.info? T).map (fun i=>(i.size,i.bytes,i.zero.map (fun z=>z.cells.size)))=some (k,b,some k)):∃ (i:TypeInfo) (z:Value),P.info? T=some i∧i.zero=some z∧i.size=k∧i.bytes=b∧z.cells.size=k:=by
 cases hq:P.info? T with
 | none=>rw [hq] at h;cases h
 | some i =>
  rw [hq] at h;simp only [Option.map_some,Option.some.injEq,Prod.mk.injEq] at h;obtain ⟨e1,e2,e3⟩:=h
  cases hz:i.zero with
  | none=>rw [hz] at e3;cases e3
  | some z=>rw [hz] at e3;simp only [Option.map_some,Option.some.injEq] at e3;exact ⟨i,z,rfl,hz,e1,e2,e3⟩
theorem fZc {L:List Nd} {g:Nat→Int × Int} {ks:List Nat} {k x:Nat} {m:Nd} (h:ks[k]?=some x) (hm:L[x]?=some m):pksF L g (ks.take (k+1))=pksF L g (ks.take k) ++ [pkOf m (g x)]:=by
 obtain ⟨hk,e⟩:=List.getElem?_eq_some_iff.1 h;unfold pksF;rw [List.take_succ_eq_append_getElem hk,e,List.filterMap_append]
 simp [hm]
theorem uZg {L:List Nd} {g:Nat→Int × Int} {ks:List Nat} (hk:∀ x∈ks,x<L.length):∀ k,k≤ks.length→(pksF L g (ks.take k)).length=k:=by
 intro k
 induction k with
 | zero=>intro _;simp [pksF]
 | succ k ih =>
  intro h;have e:ks[k]?=some ks[k]:=List.getElem?_eq_getElem (by omega);have hlt:ks[k]'(by omega)<L.length:=hk _ (List.getElem_mem (by omega));have em:L[ks[k]'(by omega)]?=some (L[ks[k]'(by omega)]'hlt):=List.getElem?_eq_getElem hlt;rw [fZc e em,List.length_append,ih (by omega)]
  rfl
theorem fZr (A:Option Addr) (c:Nat) (R:List Nr) (ks:List Nat) (B:Option Addr) (cb n:Nat) (g:Nat→Int × Int) (w:World) (h:NrV w A R) (hR1:1≤R.length) (hL:R.length≤1048576) (hB:NV w B (ks.map fun (k:Nat)=>(k:Int))) (hn:n=ks.length) (hn2:n≤1048576) (hk:∀ k∈ks,k<R.length)
  (hS:∀ k∈ks,∀ W,Below w.heap.size w W→Calls Tryz.prog 68 #[.agg #[.slice A R.length c],.int .i64 (k:Int)] W fun e W'=>e=.returned (.tuple #[.int .i64 (g k).1,.int .i64 (g k).2])∧Below W.heap.size W W') :
  Calls Tryz.prog 111 #[.agg #[.slice A R.length c],.slice B n cb] w fun e w'=>(∃ A' c',e=.returned (.slice A' n c')∧PV w' A' (pksF (R.map Nr.n) g ks)∧n≤c')∧Below w.heap.size w w':=by
 obtain ⟨ti,tz,ti1,ti2,ti3,ti4,ti5⟩:=info_own (P:=Tryz.prog) (T:=37) (k:=9) (b:=56) (by kernel_rfl);obtain ⟨b,off,rfl,hb,hc⟩:=h.cells hR1;have HC:=hD hc;have HS:=hD hS;have HKS:=hD hk;have HN:=hD hB;have hnk:=hn;have HNK:=hD hnk;clear hc h hS hk hB hn hnk;refine kZ7 Tryz.func111 rfl 44 (by simp only [Tryz.ntmps111]) (by simp) (fun t hsz hargs=>?_)
 have q0:t[0]?=some (.agg #[.slice (some ⟨b,off,none⟩) R.length c]):=pZl (by omega) (hargs 0 _ rfl);have q1:t[1]?=some (.slice B n cb):=pZl (by omega) (hargs 1 _ rfl);clear hargs;obtain ⟨l0,e0⟩:=gE q0;obtain ⟨l1,e1⟩:=gE q1
 refine jZe fun K hK=>?_
 apply wp_region_lit
 repeat (first | go_step)
 refine hK.out _ _ ?_;clear hK K;refine jZy (fun t' W'=>t'.size=44∧t'[1]?=some (.slice B n cb)∧t'[2]?=some (.pointer (some ⟨w.heap.size,0,none⟩))∧W'.heap[w.heap.size]?=some (.cells #[.slice (some ⟨b,off,none⟩) R.length c] 25 (0,0))∧Below w.heap.size w W') ⟨by simp [Act.put,hsz],by simp [Act.put,q1],by simp [Act.put,hsz],⟨newS _ _,jZd (Below.refl _ _)⟩⟩ ?_;clear hsz q0 l0 e0 q1 l1 e1 t
 rintro t Wb ⟨hsz,q1,q2,HX,hB0⟩;have HXX:=hD HX;have HB0:=hD hB0;replace HC:=hD (show ∀ k p,R[k]?=some p→Wb.rangeAt b (off+k*34) (jZj p) from fun k p hk=>pZi (HC.out k p hk) (hB0.block b hb));replace HN:=hD (HN.out.keep hB0);have hbl:b<Wb.heap.size:=Nat.lt_of_lt_of_le hb hB0.size;have lxb:w.heap.size<Wb.heap.size:=ltS HX;clear HX hB0 hb;obtain ⟨l1,e1⟩:=gE q1;obtain ⟨l2,e2⟩:=gE q2
 refine jZe fun K hK=>?_
 apply wp_region_lit
 repeat (first | go_step)
 refine hK.out _ _ ?_;clear hK K
 refine jZy (fun t' W'=>t'.size=44∧t'[1]?=some (.slice B n cb)∧t'[2]?=some (.pointer (some ⟨w.heap.size,0,none⟩))∧t'[5]?=some (.slice (some ⟨Wb.heap.size,0,none⟩) 0 0)∧W'.ownsRow Wb.heap.size 37 9 (.slice (some ⟨Wb.heap.size,0,none⟩) 0 0) 0 (([]:List (List Value)).flatten)∧Below Wb.heap.size Wb W') ⟨by simp [Act.put,hsz],by simp [Act.put,q1],by simp [Act.put,q2],by simp [Act.put,hsz],⟨World.ownsRow_lit (base:=Wb.heap.size) (e:=37) (size:=9) Wb #[] 0 (Nat.le_refl _) (by decide) rfl,jZd (Below.refl _ _)⟩⟩ ?_
 clear hsz q1 l1 e1 q2 l2 e2 t;rintro t W0 ⟨hsz,q1,q2,q5,hO,hB⟩
 refine jZe fun KE hKE=>?_
 obtain ⟨l1,e1⟩:=gE q1;obtain ⟨l2,e2⟩:=gE q2;obtain ⟨l5,e5⟩:=gE q5
 refine jZe fun K hK=>?_
 apply wp_region_lit
 repeat (first | go_step)
 refine hK.out _ _ ?_;clear hK K;refine jZy (fun t' W'=>t'.size=44∧t'[1]?=some (.slice B n cb)∧t'[2]?=some (.pointer (some ⟨w.heap.size,0,none⟩))∧t'[5]?=some (.slice (some ⟨Wb.heap.size,0,none⟩) 0 0)∧t'[6]?=some (.int .i64 ((0:Nat):Int))∧W0=W') ⟨by simp [Act.put,hsz],by simp [Act.put,q1],by simp [Act.put,q2],by simp [Act.put,q5],by simp [Act.put,hsz],rfl⟩ ?_
 clear hsz q1 l1 e1 q2 l2 e2 q5 l5 e5 t;rintro t _ ⟨hsz,q1,q2,q5,q6,rfl⟩;apply wp_block
 refine wp_loop (fun a W=>∃ (t:Array Value) (k:Nat) (v:Value),a=⟨t,[]⟩∧k≤n∧t.size=44∧t[1]?=some (.slice B n cb)∧t[2]?=some (.pointer (some ⟨w.heap.size,0,none⟩))∧t[5]?=some (v)∧t[6]?=some (.int .i64 (k:Int))∧W.ownsRow Wb.heap.size 37 9 v k ((pksF (R.map Nr.n) g (ks.take k)).map pZj).flatten∧Below Wb.heap.size Wb W) (fun a _=>n-(intOf (a.tmps.getD 6 undef)).toNat) ⟨t,0,_,rfl,by omega,hsz,q1,q2,q5,q6,by simpa [pksF] using hO,hB⟩ ?_
 clear t hsz q1 q2 q5 q6 hO hB W0;rintro a W ⟨t,k,v,rfl,hk,hsz,q1,q2,q5,q6,hO,hB⟩
 have hmu:intOf (t.getD 6 undef)=(k:Int):=by rw [Array.getD_eq_getD_getElem?,q6];rfl
 dsimp only
 rw [hmu];clear hmu;have HO:=hD hO;have HB:=hD hB;clear hO hB
 by_cases hlt:k<n
 ·have hd:decide ((k:Int)<(n:Int))=true:=by simpa using hlt
  refine jZe fun K1 hK1=>?_
  obtain ⟨l1,e1⟩:=gE q1;obtain ⟨l2,e2⟩:=gE q2;obtain ⟨l5,e5⟩:=gE q5;obtain ⟨l6,e6⟩:=gE q6
  refine jZe fun K hK=>?_
  apply wp_region_lit
  repeat (first | go_step)
  refine hK.out _ _ ?_;clear hK K;refine jZy (fun t' W'=>t'.size=44∧t'[1]?=some (.slice B n cb)∧t'[2]?=some (.pointer (some ⟨w.heap.size,0,none⟩))∧t'[5]?=some (v)∧t'[6]?=some (.int .i64 (k:Int))∧t'[14]?=some (.bool true)∧W=W') ⟨by simp [Act.put,hsz],by simp [Act.put,q1],by simp [Act.put,q2],by simp [Act.put,q5],by simp [Act.put,q6],by simp [Act.put,hsz,hd],rfl⟩ ?_
  clear hsz q1 l1 e1 q2 l2 e2 q5 l5 e5 q6 l6 e6 t;rintro t _ ⟨hsz,q1,q2,q5,q6,q14,rfl⟩;clear hd;refine wp_cond_true (by simp [Act.eval,q14]) ?_;apply wp_skip;simp only [Exit.then];refine hK1.out _ _ ?_;clear hK1 K1 q14
  refine jZe fun KB hKB=>?_
  apply wp_block
  have hkl:k<ks.length:=by rw [<- HNK.out];exact hlt
  have hkg:ks[k]?=some ks[k]:=List.getElem?_eq_getElem hkl;have hxl:ks[k]<R.length:=HKS.out _ (List.getElem_mem hkl);have hget:R[ks[k]]?=some R[ks[k]]:=List.getElem?_eq_getElem hxl;have hS1:=HS.out _ (List.getElem_mem hkl);have hsn:=fZc (L:=R.map Nr.n) (g:=g) hkg (m:=R[ks[k]].n) (by rw [List.getElem?_map,hget];rfl);obtain ⟨b2,off2,rfl,hb2,hp2⟩:=(HN.out.keep HB.out).cells (by simp;omega)
  have cx:=hp2 k (ks[k]:Int) (by rw [List.getElem?_map,hkg];rfl);have hrp:=HC.out _ _ hget;generalize hxe:ks[k]=x at *;have hget2:R[x]?=some (R[x]'hxl):=List.getElem?_eq_getElem hxl;generalize (R[x]'hxl)=p at *
  have hd1:(k:Int)<(n:Int):=by omega
  have hd2:(x:Int)<(R.length:Int):=by omega
  have x0:=jZc ((HB.out.block _ lxb).trans HXX.out) 0;have lx:w.heap.size<W.heap.size:=Nat.lt_of_lt_of_le lxb HB.out.size;have hbl1:b<W.heap.size:=Nat.lt_of_lt_of_le hbl HB.out.size;have HRP:=hD (show W.rangeAt b (off+x*34) (jZj p) from pZi hrp (HB.out.block b hbl));have HS1:=hD hS1;have HSN:=hD hsn
  have HCX:=hD (show ∀ W',Below Wb.heap.size Wb W'→W'.cell? ⟨b2,off2+k,none⟩=some (.int .i64 (x:Int)) from fun W' hW'=>by obtain ⟨b3,off3,e3,hb3,hp3⟩:=(HN.out.keep hW').cells (by simp;omega);cases e3;exact hp3 k _ (by rw [List.getElem?_map,hkg];rfl));have HB2:=hD (show b2<Wb.heap.size by obtain ⟨b3,off3,e3,hb3,_⟩:=HN.out.cells (by simp;omega);cases e3;exact hb3);have HBW:=hD HB.out.size
  have HOL:=hD (show ∀ k,v.ownBlock=some k→k<W.heap.size from fun k e=>(HO.out.lt k e).2);clear hp2 hrp hS1 hsn hkg hget hget2 hxe hxl hkl;obtain ⟨l1,e1⟩:=gE q1;obtain ⟨l2,e2⟩:=gE q2;obtain ⟨l5,e5⟩:=gE q5;obtain ⟨l6,e6⟩:=gE q6
  refine jZe fun K hK=>?_
  refine wp_region_any (by kernel_rfl) ?_
  refine rZu 10 1 #[true,true,true,true,true,true,true,true,true,true,false] (by kernel_rfl) (by kernel_rfl) (XV (.pointer (some ⟨w.heap.size,0,none⟩)) :: XV (.slice (some ⟨b,off,none⟩) R.length c) :: XV (.slice (some ⟨b2,off2,none⟩) n cb) :: XV (.int .i64 (k:Int)) :: XV (.pointer (some ⟨b2,off2+k,none⟩)) :: XV (.int .i64 (x:Int)) :: XV (.pointer (some ⟨b,off+x*34,none⟩)) :: XV (.pointer (some ⟨b,off+x*34+7,none⟩)) :: XV (.agg (pZj p.n.pk).toArray) :: (fun v w=>BxZ w v W.heap.size 37 9) :: []) (by show rgC _ t.size=true;rw [hsz];kernel_rfl) (by kernel_rfl) ?hTs ?hops ?hfin
  case hTs =>
   intro T hT;simp only [List.mem_cons,List.not_mem_nil,or_false] at hT
   rcases hT with rfl | rfl | rfl | rfl | rfl | rfl | rfl | rfl | rfl | rfl <;> first | exact qZn _ | exact qZo | exact kZh (fun v a b x g=>x.keep g) | exact kZh (fun v a b x g=>x)
  case hops =>
   refine ⟨jZb [(2,none)] (by kernel_rfl) rfl ?_,?_⟩
   ·intro act w' hw' h1;obtain ⟨hk,hf⟩:=evkf act;generalize act.eval=ρ at *;replace h1:ρ (.tmp 2)=.pointer (some ⟨w.heap.size,0,none⟩):=h1.trans (by simp [Act.eval,q2])
    refine gxB hw' fun K hK hc hf'=>?_
    go_simp;exact hK _ _ ⟨rfl,Gr.refl _⟩
   refine ⟨jZb [(17,some 0)] (by kernel_rfl) rfl ?_,?_⟩
   ·intro act w' hw' h1;obtain ⟨hk,hf⟩:=evkf act;generalize act.eval=ρ at *;replace h1:ρ (.tmp 17)=.pointer (some ⟨w.heap.size,0,none⟩):=h1
    refine gxB hw' fun K hK hc hf'=>?_
    go_simp;exact hK _ _ ⟨rfl,Gr.refl _⟩
   refine ⟨jZb [(1,none)] (by kernel_rfl) rfl ?_,?_⟩
   ·intro act w' hw' h1;obtain ⟨hk,hf⟩:=evkf act;generalize act.eval=ρ at *;replace h1:ρ (.tmp 1)=.slice (some ⟨b2,off2,none⟩) n cb:=h1.trans (by simp [Act.eval,q1])
    refine gxB hw' fun K hK hc hf'=>?_
    go_simp;exact hK _ _ ⟨rfl,Gr.refl _⟩
   refine ⟨jZb [(6,none)] (by kernel_rfl) rfl ?_,?_⟩
   ·intro act w' hw' h1;obtain ⟨hk,hf⟩:=evkf act;generalize act.eval=ρ at *;replace h1:ρ (.tmp 6)=.int .i64 (k:Int):=h1.trans (by simp [Act.eval,q6])
    refine gxB hw' fun K hK hc hf'=>?_
    go_simp;exact hK _ _ ⟨rfl,Gr.refl _⟩
   refine ⟨jZb [(19,some 2),(20,some 3)] (by kernel_rfl) rfl ?_,?_⟩
   ·intro act w' hw' h1 h2;obtain ⟨hk,hf⟩:=evkf act;generalize act.eval=ρ at *;replace h1:ρ (.tmp 19)=.slice (some ⟨b2,off2,none⟩) n cb:=h1;replace h2:ρ (.tmp 20)=.int .i64 (k:Int):=h2
    refine gxB hw' fun K hK hc hf'=>?_
    go_simp;exact hK _ _ ⟨rfl,Gr.refl _⟩
   refine ⟨jZb [(21,some 4)] (by kernel_rfl) rfl ?_,?_⟩
   ·intro act w' hw' h1;obtain ⟨hk,hf⟩:=evkf act;generalize act.eval=ρ at *;replace h1:ρ (.tmp 21)=.pointer (some ⟨b2,off2+k,none⟩):=h1
    refine gxB hw' fun K hK hc hf'=>?_
    go_simp;exact hK _ _ ⟨rfl,Gr.refl _⟩
   refine ⟨jZb [(18,some 1),(22,some 5)] (by kernel_rfl) rfl ?_,?_⟩
   ·intro act w' hw' h1 h2;obtain ⟨hk,hf⟩:=evkf act;generalize act.eval=ρ at *;replace h1:ρ (.tmp 18)=.slice (some ⟨b,off,none⟩) R.length c:=h1;replace h2:ρ (.tmp 22)=.int .i64 (x:Int):=h2
    refine gxB hw' fun K hK hc hf'=>?_
    go_simp;exact hK _ _ ⟨rfl,Gr.refl _⟩
   refine ⟨jZb [(23,some 6)] (by kernel_rfl) rfl ?_,?_⟩
   ·intro act w' hw' h1;obtain ⟨hk,hf⟩:=evkf act;generalize act.eval=ρ at *;replace h1:ρ (.tmp 23)=.pointer (some ⟨b,off+x*34,none⟩):=h1
    refine gxB hw' fun K hK hc hf'=>?_
    go_simp;exact hK _ _ ⟨rfl,Gr.refl _⟩
   refine ⟨jZb [(24,some 7)] (by kernel_rfl) rfl ?_,?_⟩
   ·intro act w' hw' h1;obtain ⟨hk,hf⟩:=evkf act;generalize act.eval=ρ at *;replace h1:ρ (.tmp 24)=.pointer (some ⟨b,off+x*34+7,none⟩):=h1;refine qZs (fun K hK=>?_)
    simp only [execOp,h1,Instr.loadAt,Instr.sureAddr,Sem.run_bind,Sem.run_pure,Result.andThen_ok,run_loadVar_mid w' b (off+x*34+7) 37 (pZj p.n.pk) _ (pZi (kZ4 HRP.out) ((jZs hw'.out).block b hbl1)) Tryz.underlying37 rfl sZf];exact hK _ _ ⟨rfl,Gr.refl _⟩
   refine ⟨jZb [] (by kernel_rfl) rfl ?_,?_⟩
   ·intro act w' hw';obtain ⟨hk,hf⟩:=evkf act;generalize act.eval=ρ at *;refine qZs (fun K hK=>?_);obtain ⟨z,hz,hr⟩:=vZg (P:=Tryz.prog) (T:=37) w' gZc;simp only [execOp,Sem.run_bind,hr,Result.andThen_ok,Sem.run_pure];exact hK _ _ ⟨⟨_,z,rfl,(jZs hw'.out).size,newS _ _,hz⟩,Gr.alloc _ _⟩
   exact trivial
  case hfin =>
   intro w1 hg1;intro v17 t17;replace t17:v17=.pointer (some ⟨w.heap.size,0,none⟩):=t17;subst t17;intro v18 t18;replace t18:v18=.slice (some ⟨b,off,none⟩) R.length c:=t18;subst t18;intro v19 t19;replace t19:v19=.slice (some ⟨b2,off2,none⟩) n cb:=t19;subst t19;intro v20 t20;replace t20:v20=.int .i64 (k:Int):=t20;subst t20;intro v21 t21;replace t21:v21=.pointer (some ⟨b2,off2+k,none⟩):=t21;subst t21
   intro v22 t22;replace t22:v22=.int .i64 (x:Int):=t22;subst t22;intro v23 t23;replace t23:v23=.pointer (some ⟨b,off+x*34,none⟩):=t23;subst t23;intro v24 t24;replace t24:v24=.pointer (some ⟨b,off+x*34+7,none⟩):=t24;subst t24;intro v25 t25;replace t25:v25=.agg (pZj p.n.pk).toArray:=t25;subst t25;intro v7 t7;replace t7:(fun v w=>BxZ w v W.heap.size 37 9) v7 w1:=t7;have hb1:=jZs hg1.out
   clear hg1;simp only [finP,List.take_succ_cons,List.take_zero,Act.put,List.setIfInBounds_toArray,List.set_cons_succ,List.set_cons_zero];obtain ⟨gx,z,rfl,hgx,hhx,hzx⟩:=t7
   refine qZ1 10 37 (.tmp 7) (.tmp 25) gx 0 (pZj p.n.pk) (by kernel_rfl) (by kernel_rfl) (by kernel_rfl) (by simp [Act.eval,Act.put,hsz]) (by simp [Act.eval,Act.put,hsz]) (pZb hhx (by rw [hzx];show 0+9≤9;omega)) sZf (tZh _) ?_;simp only [Exit.then];refine hK.out _ _ ?_;clear hK K
   refine jZy (fun t' W'=>t'.size=44∧t'[1]?=some (.slice (some ⟨b2,off2,none⟩) n cb)∧t'[2]?=some (.pointer (some ⟨w.heap.size,0,none⟩))∧t'[5]?=some (v)∧t'[6]?=some (.int .i64 (k:Int))∧t'[7]?=some (.pointer (some ⟨gx,0,none⟩))∧W'.heap[gx]?=some (.cells (pZj p.n.pk).toArray 37 (0,0))∧Below W.heap.size W W'∧W.heap.size≤gx) ⟨by simp [Act.put,hsz],by simp [Act.put,q1],by simp [Act.put,q2],by simp [Act.put,q5],by simp [Act.put,q6],by simp [Act.put,hsz],⟨eZo hhx hzx (pZj p.n.pk) rfl,jZi hgx _ _ _ hb1,hgx⟩⟩ ?_
   clear hsz q1 l1 e1 q2 l2 e2 q5 l5 e5 q6 l6 e6 t x0 lx hbl1 hd2 cx z hhx hzx hgx hb1 hb2;rintro t W1 ⟨hsz,q1,q2,q5,q6,q7,hgp,hb2,hgx⟩;have HGP:=hD hgp;replace HO:=hD (cZi HO.out hb2);replace HB:=hD (jZa HB.out hb2);clear hb2 hgp;have y0:=jZc ((HB.out.block _ lxb).trans HXX.out) 0;have lx:w.heap.size<W1.heap.size:=Nat.lt_of_lt_of_le lxb HB.out.size
   have cy:W1.cell? ⟨b2,off2+k,none⟩=some (.int .i64 (x:Int)):=HCX.out W1 HB.out;have lb2:b2<W1.heap.size:=Nat.lt_of_lt_of_le HB2.out HB.out.size;obtain ⟨l1,e1⟩:=gE q1;obtain ⟨l2,e2⟩:=gE q2;obtain ⟨l5,e5⟩:=gE q5;obtain ⟨l6,e6⟩:=gE q6;obtain ⟨l7,e7⟩:=gE q7
   refine jZe fun K hK=>?_
   refine wp_region_any (by kernel_rfl) ?_
   refine rZu 11 0 #[true,true,true,true,true,true,true,true,true,true,true] (by kernel_rfl) (by kernel_rfl) (XV (.agg #[.slice (some ⟨b,off,none⟩) R.length c]) :: XV (.slice (some ⟨b2,off2,none⟩) n cb) :: XV (.int .i64 (k:Int)) :: XV (.pointer (some ⟨b2,off2+k,none⟩)) :: XV (.int .i64 (x:Int)) :: XV (.tuple #[.int .i64 (g x).1,.int .i64 (g x).2]) :: XV (.tuple #[.int .i64 (g x).1,.int .i64 (g x).2]) :: XV (.int .i64 (g x).1) :: XV (.int .i64 (g x).2) :: XV (.int .i64 (g x).1) :: XV (.int .i64 (g x).2) :: []) (by show rgC _ t.size=true;rw [hsz];kernel_rfl) (by kernel_rfl) ?hTs ?hops ?hfin
   case hTs =>
    intro T hT;simp only [List.mem_cons,List.not_mem_nil,or_false] at hT
    rcases hT with rfl | rfl | rfl | rfl | rfl | rfl | rfl | rfl | rfl | rfl | rfl <;> first | exact qZn _ | exact qZo | exact kZh (fun v a b x g=>x.keep g) | exact kZh (fun v a b x g=>x)
   case hops =>
    refine ⟨jZb [(2,none)] (by kernel_rfl) rfl ?_,?_⟩
    ·intro act w' hw' h1;obtain ⟨hk,hf⟩:=evkf act;generalize act.eval=ρ at *;replace h1:ρ (.tmp 2)=.pointer (some ⟨w.heap.size,0,none⟩):=h1.trans (by simp [Act.eval,q2])
     refine gxB hw' fun K hK hc hf'=>?_
     go_simp;exact hK _ _ ⟨rfl,Gr.refl _⟩
    refine ⟨jZb [(1,none)] (by kernel_rfl) rfl ?_,?_⟩
    ·intro act w' hw' h1;obtain ⟨hk,hf⟩:=evkf act;generalize act.eval=ρ at *;replace h1:ρ (.tmp 1)=.slice (some ⟨b2,off2,none⟩) n cb:=h1.trans (by simp [Act.eval,q1])
     refine gxB hw' fun K hK hc hf'=>?_
     go_simp;exact hK _ _ ⟨rfl,Gr.refl _⟩
    refine ⟨jZb [(6,none)] (by kernel_rfl) rfl ?_,?_⟩
    ·intro act w' hw' h1;obtain ⟨hk,hf⟩:=evkf act;generalize act.eval=ρ at *;replace h1:ρ (.tmp 6)=.int .i64 (k:Int):=h1.trans (by simp [Act.eval,q6])
     refine gxB hw' fun K hK hc hf'=>?_
     go_simp;exact hK _ _ ⟨rfl,Gr.refl _⟩
    refine ⟨jZb [(28,some 1),(29,some 2)] (by kernel_rfl) rfl ?_,?_⟩
    ·intro act w' hw' h1 h2;obtain ⟨hk,hf⟩:=evkf act;generalize act.eval=ρ at *;replace h1:ρ (.tmp 28)=.slice (some ⟨b2,off2,none⟩) n cb:=h1;replace h2:ρ (.tmp 29)=.int .i64 (k:Int):=h2
     refine gxB hw' fun K hK hc hf'=>?_
     go_simp;exact hK _ _ ⟨rfl,Gr.refl _⟩
    refine ⟨jZb [(30,some 3)] (by kernel_rfl) rfl ?_,?_⟩
    ·intro act w' hw' h1;obtain ⟨hk,hf⟩:=evkf act;generalize act.eval=ρ at *;replace h1:ρ (.tmp 30)=.pointer (some ⟨b2,off2+k,none⟩):=h1
     refine gxB hw' fun K hK hc hf'=>?_
     go_simp;exact hK _ _ ⟨rfl,Gr.refl _⟩
    refine ⟨jZb [(27,some 0),(31,some 4)] (by kernel_rfl) rfl ?_,?_⟩
    ·intro act w' hw' h1 h2;obtain ⟨hk,hf⟩:=evkf act;generalize act.eval=ρ at *;replace h1:ρ (.tmp 27)=.agg #[.slice (some ⟨b,off,none⟩) R.length c]:=h1;replace h2:ρ (.tmp 31)=.int .i64 (x:Int):=h2
     refine gxB hw' fun K hK hc hf'=>?_
     go_simp
     (refine (HS1.out _ (jZa (jZa HB0.out HB.out) (jZs hw'.out))).mono ?_);rintro e w1 ⟨rfl,hb1⟩;exact ⟨_,rfl,hK _ _ ⟨rfl,hb1⟩⟩
    refine ⟨jZb [(32,some 5)] (by kernel_rfl) rfl ?_,?_⟩
    ·intro act w' hw' h1;obtain ⟨hk,hf⟩:=evkf act;generalize act.eval=ρ at *;replace h1:ρ (.tmp 32)=.tuple #[.int .i64 (g x).1,.int .i64 (g x).2]:=h1
     refine gxB hw' fun K hK hc hf'=>?_
     go_simp;exact hK _ _ ⟨rfl,Gr.refl _⟩
    refine ⟨jZb [(26,some 6)] (by kernel_rfl) rfl ?_,?_⟩
    ·intro act w' hw' h1;obtain ⟨hk,hf⟩:=evkf act;generalize act.eval=ρ at *;replace h1:ρ (.tmp 26)=.tuple #[.int .i64 (g x).1,.int .i64 (g x).2]:=h1
     refine gxB hw' fun K hK hc hf'=>?_
     go_simp;exact hK _ _ ⟨rfl,Gr.refl _⟩
    refine ⟨jZb [(26,some 6)] (by kernel_rfl) rfl ?_,?_⟩
    ·intro act w' hw' h1;obtain ⟨hk,hf⟩:=evkf act;generalize act.eval=ρ at *;replace h1:ρ (.tmp 26)=.tuple #[.int .i64 (g x).1,.int .i64 (g x).2]:=h1
     refine gxB hw' fun K hK hc hf'=>?_
     go_simp;exact hK _ _ ⟨rfl,Gr.refl _⟩
    refine ⟨jZb [(33,some 7)] (by kernel_rfl) rfl ?_,?_⟩
    ·intro act w' hw' h1;obtain ⟨hk,hf⟩:=evkf act;generalize act.eval=ρ at *;replace h1:ρ (.tmp 33)=.int .i64 (g x).1:=h1
     refine gxB hw' fun K hK hc hf'=>?_
     go_simp;exact hK _ _ ⟨rfl,Gr.refl _⟩
    refine ⟨jZb [(34,some 8)] (by kernel_rfl) rfl ?_,?_⟩
    ·intro act w' hw' h1;obtain ⟨hk,hf⟩:=evkf act;generalize act.eval=ρ at *;replace h1:ρ (.tmp 34)=.int .i64 (g x).2:=h1
     refine gxB hw' fun K hK hc hf'=>?_
     go_simp;exact hK _ _ ⟨rfl,Gr.refl _⟩
    exact trivial
   case hfin =>
    intro w2 hg2;intro v27 t27;replace t27:v27=.agg #[.slice (some ⟨b,off,none⟩) R.length c]:=t27;subst t27;intro v28 t28;replace t28:v28=.slice (some ⟨b2,off2,none⟩) n cb:=t28;subst t28;intro v29 t29;replace t29:v29=.int .i64 (k:Int):=t29;subst t29;intro v30 t30;replace t30:v30=.pointer (some ⟨b2,off2+k,none⟩):=t30;subst t30;intro v31 t31;replace t31:v31=.int .i64 (x:Int):=t31;subst t31
    intro v32 t32;replace t32:v32=.tuple #[.int .i64 (g x).1,.int .i64 (g x).2]:=t32;subst t32;intro v26 t26;replace t26:v26=.tuple #[.int .i64 (g x).1,.int .i64 (g x).2]:=t26;subst t26;intro v33 t33;replace t33:v33=.int .i64 (g x).1:=t33;subst t33;intro v34 t34;replace t34:v34=.int .i64 (g x).2:=t34;subst t34;intro v8 t8;replace t8:v8=.int .i64 (g x).1:=t8;subst t8;intro v9 t9
    replace t9:v9=.int .i64 (g x).2:=t9;subst t9;have hb2:=jZs hg2.out;clear hg2;simp only [finP,List.take_succ_cons,List.take_zero,Act.put,List.setIfInBounds_toArray,List.set_cons_succ,List.set_cons_zero];refine jZq (by kernel_rfl) ?_;simp only [Exit.then];refine hK.out _ _ ?_;clear hK K y0 cy
    refine jZy (fun t' W'=>t'.size=44∧t'[1]?=some (.slice (some ⟨b2,off2,none⟩) n cb)∧t'[2]?=some (.pointer (some ⟨w.heap.size,0,none⟩))∧t'[5]?=some (v)∧t'[6]?=some (.int .i64 (k:Int))∧t'[7]?=some (.pointer (some ⟨gx,0,none⟩))∧t'[8]?=some (.int .i64 (g x).1)∧t'[9]?=some (.int .i64 (g x).2)∧W'.heap[gx]?=some (.cells (pZj p.n.pk).toArray 37 (0,0))∧Below W1.heap.size W1 W') ⟨by simp [Act.put,hsz],by simp [Act.put,q1],by simp [Act.put,q2],by simp [Act.put,q5],by simp [Act.put,q6],by simp [Act.put,q7],by simp [Act.put,hsz],by simp [Act.put,hsz],⟨(hb2.block _ (ltS HGP.out)).trans HGP.out,hb2⟩⟩ ?_
    clear hsz q1 l1 e1 q2 l2 e2 q5 l5 e5 q6 l6 e6 q7 l7 e7 t hb2;rintro t W2 ⟨hsz,q1,q2,q5,q6,q7,q8,q9,hgp,hb2⟩;replace HO:=hD (cZi HO.out hb2);replace HB:=hD (jZa HB.out hb2);clear hb2 lx lb2 HGP;have fz0:=jZm hgp 0;obtain ⟨y1,z1⟩:=pZz hgp (i:=0) (by show 0<9;omega);have lgx:=ltS hgp;obtain ⟨l1,e1⟩:=gE q1;obtain ⟨l2,e2⟩:=gE q2;obtain ⟨l5,e5⟩:=gE q5;obtain ⟨l6,e6⟩:=gE q6
    obtain ⟨l7,e7⟩:=gE q7;obtain ⟨l8,e8⟩:=gE q8;obtain ⟨l9,e9⟩:=gE q9
    refine jZe fun K hK=>?_
    apply wp_region_lit
    repeat (first | go_step)
    refine hK.out _ _ ?_;clear hK K
    refine jZy (fun t' W'=>t'.size=44∧t'[1]?=some (.slice (some ⟨b2,off2,none⟩) n cb)∧t'[2]?=some (.pointer (some ⟨w.heap.size,0,none⟩))∧t'[5]?=some (v)∧t'[6]?=some (.int .i64 (k:Int))∧t'[7]?=some (.pointer (some ⟨gx,0,none⟩))∧t'[8]?=some (.int .i64 (g x).1)∧t'[9]?=some (.int .i64 (g x).2)∧W'.heap[gx]?=some (.cells ((pZj p.n.pk).toArray.setIfInBounds 0 (.int .i64 (g x).1)) 37 (0,0))∧W2.grownBy W' (some gx)) ⟨by simp [Act.put,hsz],by simp [Act.put,q1],by simp [Act.put,q2],by simp [Act.put,q5],by simp [Act.put,q6],by simp [Act.put,q7],by simp [Act.put,q8],by simp [Act.put,q9],⟨putS hgp _,bZ7 (rZz _ gx) _ _⟩⟩ ?_
    clear hsz q1 l1 e1 q2 l2 e2 q5 l5 e5 q6 l6 e6 q7 l7 e7 q8 l8 e8 q9 l9 e9 t fz0 z1 y1 lgx;rintro t W3 ⟨hsz,q1,q2,q5,q6,q7,q8,q9,hgp3,hgr3⟩;have fz0:=jZm hgp3 1;obtain ⟨y1,z1⟩:=pZz hgp3 (i:=1) (by show 1<9;omega);have lgx:=ltS hgp3;obtain ⟨l1,e1⟩:=gE q1;obtain ⟨l2,e2⟩:=gE q2;obtain ⟨l5,e5⟩:=gE q5;obtain ⟨l6,e6⟩:=gE q6;obtain ⟨l7,e7⟩:=gE q7;obtain ⟨l8,e8⟩:=gE q8;obtain ⟨l9,e9⟩:=gE q9
    refine jZe fun K hK=>?_
    apply wp_region_lit
    repeat (first | go_step)
    refine hK.out _ _ ?_;clear hK K
    refine jZy (fun t' W'=>t'.size=44∧t'[1]?=some (.slice (some ⟨b2,off2,none⟩) n cb)∧t'[2]?=some (.pointer (some ⟨w.heap.size,0,none⟩))∧t'[5]?=some (v)∧t'[6]?=some (.int .i64 (k:Int))∧t'[7]?=some (.pointer (some ⟨gx,0,none⟩))∧t'[8]?=some (.int .i64 (g x).1)∧t'[9]?=some (.int .i64 (g x).2)∧W'.heap[gx]?=some (.cells (pZj (pkOf p.n (g x))).toArray 37 (0,0))∧W2.grownBy W' (some gx)) ⟨by simp [Act.put,hsz],by simp [Act.put,q1],by simp [Act.put,q2],by simp [Act.put,q5],by simp [Act.put,q6],by simp [Act.put,q7],by simp [Act.put,q8],by simp [Act.put,q9],⟨putS hgp3 _,bZ7 hgr3 _ _⟩⟩ ?_
    clear hsz q1 l1 e1 q2 l2 e2 q5 l5 e5 q6 l6 e6 q7 l7 e7 q8 l8 e8 q9 l9 e9 t fz0 z1 y1 lgx hgp3 hgr3;rintro t W4 ⟨hsz,q1,q2,q5,q6,q7,q8,q9,hgp4,hgr4⟩;have hgxb:Wb.heap.size≤gx:=Nat.le_trans HBW.out hgx
    have hne:∀ k,v.ownBlock=some k→k<gx:=fun k e=>Nat.lt_of_lt_of_le (HOL.out k e) hgx
    have HO4:=hD (bZy HO.out hgr4 (fun e=>absurd (hne _ e) (Nat.lt_irrefl _)));have HB4:=hD (vZw HB.out hgr4 hgxb HB.out.size);clear HO HB hgr4 hgp;have HR:=hD (show W4.rangeAt gx 0 (pZj (pkOf p.n (g x))) from fun j v hj=>by rw [Nat.zero_add];exact (jZc hgp4 j).trans (by simpa using hj));have hob:∀ b,v.ownBlock=some b→Wb.heap.size≤b∧b<W4.heap.size:=HO4.out.lt
    have hw4:Wb.heap.size≤W4.heap.size:=HB4.out.size;obtain ⟨l1,e1⟩:=gE q1;obtain ⟨l2,e2⟩:=gE q2;obtain ⟨l5,e5⟩:=gE q5;obtain ⟨l6,e6⟩:=gE q6;obtain ⟨l7,e7⟩:=gE q7;obtain ⟨l8,e8⟩:=gE q8;obtain ⟨l9,e9⟩:=gE q9;apply wp_region_lit
    repeat (first|((with_reducible show wpList _ _ _ _ _ _);refine ldK 37 _ [.int .i64 (g x).1,.int .i64 (g x).2,.int .i64 p.n.pk.s,.bool p.n.pk.fx,.bool p.n.pk.fy,.bool p.n.pk.ex,.int .i64 p.n.pk.an,.int .i64 p.n.pk.px,.int .i64 p.n.pk.py] gx 0 rfl rfl HR.out Tryz.underlying37 rfl sZf (by simp [Act.eval,Act.put,hsz,e7]) ?_)|((with_reducible show wpList _ _ _ _ _ _);refine wpList_append_own _ rfl _ _ 123 rfl Wb.heap.size 37 ti tz 9 56 Tryz.underlying123 ti1 ti2 ti3 ti4 ti5 (by decide) v _ _ (by simp [Act.eval,Act.put,hsz,e5]) (HO4.out.alloc _) ⟨W4.heap.size,0,none⟩ 1 1 (pZj (pkOf p.n (g x))) (by simp [Act.eval,Act.put,hsz]) rfl (newK _ (pZj (pkOf p.n (g x))) _) (tZh _) (by simp only [maxLen];omega) (by omega) (by simp;omega) ?_) | go_step)
    intro v5 w5 how5 hgr5 _;have hb5:=qZr HB4.out hgr5 hob (Nat.le_refl _) (Nat.le_refl _);rw [show ((pksF (R.map Nr.n) g (ks.take k)).map pZj).flatten ++ pZj (pkOf p.n (g x))=((pksF (R.map Nr.n) g (ks.take (k+1))).map pZj).flatten by rw [HSN.out,List.map_append,List.flatten_append];simp] at how5
    repeat go_step
    try simp only [Exit.inBlock]
    refine hKB.out _ _ ?_;clear hKB KB;refine jZy (fun t' W'=>t'.size=44∧t'[1]?=some (.slice (some ⟨b2,off2,none⟩) n cb)∧t'[2]?=some (.pointer (some ⟨w.heap.size,0,none⟩))∧t'[5]?=some (v5)∧t'[6]?=some (.int .i64 (k:Int))∧w5=W') ⟨by simp [Act.put,hsz],by simp [Act.put,q1],by simp [Act.put,q2],by simp [Act.put,hsz],by simp [Act.put,q6],rfl⟩ ?_
    clear hsz q1 l1 e1 q2 l2 e2 q5 l5 e5 q6 l6 e6 q7 l7 e7 q8 l8 e8 q9 l9 e9 t hob hw4 hgxb hne HR hgp4;rintro t _ ⟨hsz,q1,q2,q5,q6,rfl⟩;obtain ⟨l1,e1⟩:=gE q1;obtain ⟨l2,e2⟩:=gE q2;obtain ⟨l5,e5⟩:=gE q5;obtain ⟨l6,e6⟩:=gE q6;apply wp_region_lit
    repeat go_step
    try simp only [Exit.then]
    refine ⟨⟨_,k+1,v5,rfl,by omega,by simp [hsz],by simp [q1],by simp [q2],by simp [q5],by simp [hsz],how5,hb5⟩,?_⟩
    ·simp [hsz,intOf]
     omega
 ·have hd:decide ((k:Int)<(n:Int))=false:=decide_eq_false (by omega)
  refine jZe fun K1 hK1=>?_
  obtain ⟨l1,e1⟩:=gE q1;obtain ⟨l2,e2⟩:=gE q2;obtain ⟨l5,e5⟩:=gE q5;obtain ⟨l6,e6⟩:=gE q6
  refine jZe fun K hK=>?_
  apply wp_region_lit
  repeat (first | go_step)
  refine hK.out _ _ ?_;clear hK K;refine jZy (fun t' W'=>t'.size=44∧t'[1]?=some (.slice B n cb)∧t'[2]?=some (.pointer (some ⟨w.heap.size,0,none⟩))∧t'[5]?=some (v)∧t'[6]?=some (.int .i64 (k:Int))∧t'[14]?=some (.bool false)∧W=W') ⟨by simp [Act.put,hsz],by simp [Act.put,q1],by simp [Act.put,q2],by simp [Act.put,q5],by simp [Act.put,q6],by simp [Act.put,hsz,hd],rfl⟩ ?_
  clear hsz q1 l1 e1 q2 l2 e2 q5 l5 e5 q6 l6 e6 t;rintro t _ ⟨hsz,q1,q2,q5,q6,q14,rfl⟩;refine wp_cond_false (by simp [Act.eval,q14]) ?_;apply wp_exit;simp only [Exit.then,Exit.inBlock,if_true];refine hKE.out _ _ ?_;clear hd
  obtain rfl:k=n:=by omega
  have hall:ks.take k=ks:=List.take_of_length_le (by rw [HNK.out];exact Nat.le_refl _);have hO:=HO.out;rw [hall] at hO
  have hlen:k=((pksF (R.map Nr.n) g ks).map pZj).length:=by
   have:=uZg (L:=R.map Nr.n) (g:=g) (ks:=ks) (by simpa using HKS.out) k (by rw [HNK.out];exact Nat.le_refl _)
   rw [hall] at this;rw [List.length_map,this]
  obtain ⟨A',c',hv,hrv,hcn⟩:=own_rvK hO hlen (fun vs hv=>by obtain ⟨q,_,rfl⟩:=List.mem_map.1 hv;rfl);have HRV:=hD hrv;have HCN:=hD hcn;have HV:=hD hv;clear hO hlen hall hrv hv hcn;obtain ⟨l1,e1⟩:=gE q1;obtain ⟨l2,e2⟩:=gE q2;obtain ⟨l5,e5⟩:=gE q5;obtain ⟨l6,e6⟩:=gE q6;obtain ⟨l14,e14⟩:=gE q14
  repeat go_step
  refine bodyPost_ret (results_tmp rfl _ _ _) rfl ?_;exact ⟨⟨A',c',by simp [hsz,HV.out],pv_of HRV.out,HCN.out⟩,jZa HB0.out HB.out⟩
end
section
attribute [local go_sem] jZ0 jZ5 jZ2
theorem eZ8 {L:List Nd} {g:Nat→Int × Int} {ks:List Nat} {k x:Nat} {m:Nd} (h:ks[k]?=some x) (hm:L[x]?=some m):cesF L g (ks.take (k+1))=cesF L g (ks.take k) ++ [ceOf m (g x)]:=by
 obtain ⟨hk,e⟩:=List.getElem?_eq_some_iff.1 h;unfold cesF;rw [List.take_succ_eq_append_getElem hk,e,List.filterMap_append]
 simp [hm]
theorem uZ1 {L:List Nd} {g:Nat→Int × Int} {ks:List Nat} (hk:∀ x∈ks,x<L.length):∀ k,k≤ks.length→(cesF L g (ks.take k)).length=k:=by
 intro k
 induction k with
 | zero=>intro _;simp [cesF]
 | succ k ih =>
  intro h;have e:ks[k]?=some ks[k]:=List.getElem?_eq_getElem (by omega);have hlt:ks[k]'(by omega)<L.length:=hk _ (List.getElem_mem (by omega));have em:L[ks[k]'(by omega)]?=some (L[ks[k]'(by omega)]'hlt):=List.getElem?_eq_getElem hlt;rw [eZ8 e em,List.length_append,ih (by omega)]
  rfl
def Bl1 (g:Nat) (w w':World):Prop:=w.grownBy w' (some g)
theorem Bl1.refl (g:Nat) (w:World):Bl1 g w w:=rZz w g
theorem Bl1.below {g:Nat} {a w w':World} (h:Bl1 g a w) (hb:Below w.heap.size w w'):Bl1 g a w' :=
 ⟨hb.os.trans h.os,hb.tape.trans h.tape,hb.output.trans h.output,Nat.le_trans h.size hb.size,fun k hk hn=>(hb.block k (Nat.lt_of_lt_of_le hk h.size)).trans (h.block k hk hn)⟩
theorem Bl1.grown {g x:Nat} {a w w':World} (h:Bl1 g a w) (hg:w.grownBy w' (some x)) (hx:a.heap.size≤x):Bl1 g a w' :=
 ⟨hg.os.trans h.os,hg.tape.trans h.tape,hg.output.trans h.output,Nat.le_trans h.size hg.size,fun k hk hn=>(hg.block k (Nat.lt_of_lt_of_le hk h.size) (fun e=>by have:=Option.some.inj e;omega)).trans (h.block k hk hn)⟩
theorem Bl1.own {g:Nat} {a w w':World} {v:Value} {o:Obj} (h:Bl1 g a w) (hg:(w.alloc o).grownBy w' v.ownBlock) (hv:∀ k,v.ownBlock=some k→a.heap.size≤k):Bl1 g a w':=by
 have h2:=h.below (w':=w.alloc o) (jZd (Below.refl _ _));exact ⟨hg.os.trans h2.os,hg.tape.trans h2.tape,hg.output.trans h2.output,Nat.le_trans h2.size hg.size,fun k hk hn=>(hg.block k (Nat.lt_of_lt_of_le hk h2.size) (fun e=>by have:=hv k e.symm;omega)).trans (h2.block k hk hn)⟩
theorem Bl1.toB {g:Nat} {a w z:World} (h:Bl1 g a w) (hz:Below z.heap.size z a) (hg:z.heap.size≤g):Below z.heap.size z w:=vZw hz h hg hz.size
theorem gZk {w:World} {base k n:Nat} {T:TypeId} {v:Value} {xs:List Value} (h:w.ownsRow base T k v n xs):∃ A c,v=.slice A n c:=by
 rcases h.2 with ⟨rfl,h0⟩ | ⟨g,cap,cur,rfl,_⟩
 ·exact ⟨none,0,by rw [h0]⟩
 ·exact ⟨_,_,rfl⟩
def qZk (p:Nr) (v:Value):List Value:=[.slice p.ca p.n.cs.length p.cc,.slice p.ra p.n.rs.length p.rc,v]
theorem dZh (p:Nr) (A:Option Addr) (n c:Nat):one (qZk p (.slice A n c)):=by
 intro v hv;simp only [qZk,List.mem_cons,List.not_mem_nil,or_false] at hv
 rcases hv with rfl | rfl | rfl <;> rfl
theorem bZb:(Tryz.prog.info? 128).map (·.size)=some 3:=by kernel_rfl
theorem fZu:∃ i z,Tryz.prog.info? 128=some i∧i.zero=some z∧z.cells.size=3:=dZa (by kernel_rfl)
theorem gridOf_v (A:Option Addr) (c:Nat) (R:List Nr) (i:Nat) (p0:Nr) (ks:List Nat) (B:Option Addr) (cb n:Nat) (g:Nat→Int × Int) (w:World) (h:NrV w A R) (hi:R[i]?=some p0) (hL:R.length≤1048576) (hB:NV w B (ks.map fun (k:Nat)=>(k:Int))) (hn:n=ks.length) (hn2:n≤1048576) (hk:∀ k∈ks,k<R.length)
  (hS:∀ k∈ks,∀ W,Below w.heap.size w W→Calls Tryz.prog 68 #[.agg #[.slice A R.length c],.int .i64 (k:Int)] W fun e W'=>e=.returned (.tuple #[.int .i64 (g k).1,.int .i64 (g k).2])∧Below W.heap.size W W') :
  Calls Tryz.prog 113 #[.agg #[.slice A R.length c],.int .i64 (i:Int),.slice B n cb] w fun e w'=>(∃ A' c',e=.returned (.agg (qZk p0 (.slice A' n c')).toArray)∧CeV w' A' (cesF (R.map Nr.n) g ks))∧Below w.heap.size w w':=by
 obtain ⟨ti,tz,ti1,ti2,ti3,ti4,ti5⟩:=info_own (P:=Tryz.prog) (T:=39) (k:=9) (b:=72) (by kernel_rfl);have hil:=(List.getElem?_eq_some_iff.1 hi).1;obtain ⟨b,off,rfl,hb,hc⟩:=h.cells (by omega);have HC:=hD hc;have HI:=hD hi;have HS:=hD hS;have HKS:=hD hk;have HN:=hD hB;have hnk:=hn;have HNK:=hD hnk
 have hdi:(i:Int)<(R.length:Int):=by omega
 have HN0:=hD hB;have HC0:=hD hc;have hb0w:=hb;clear hc h hS hk hB hn hnk hi;refine kZ7 Tryz.func113 rfl 60 (by simp only [Tryz.ntmps113]) (by simp) (fun t hsz hargs=>?_);have q0:t[0]?=some (.agg #[.slice (some ⟨b,off,none⟩) R.length c]):=pZl (by omega) (hargs 0 _ rfl);have q1:t[1]?=some (.int .i64 (i:Int)):=pZl (by omega) (hargs 1 _ rfl)
 have q2:t[2]?=some (.slice B n cb):=pZl (by omega) (hargs 2 _ rfl);clear hargs;obtain ⟨l0,e0⟩:=gE q0;obtain ⟨l1,e1⟩:=gE q1;obtain ⟨l2,e2⟩:=gE q2
 refine jZe fun K hK=>?_
 apply wp_region_lit
 repeat (first|((with_reducible show wpList _ _ _ _ _ _);refine sZa 128 3 rfl rfl fZu (fun z hz=>?_)) | go_step)
 refine hK.out _ _ ?_;clear hK K
 refine jZy (fun t' W'=>t'.size=60∧t'[1]?=some (.int .i64 (i:Int))∧t'[2]?=some (.slice B n cb)∧t'[3]?=some (.pointer (some ⟨w.heap.size,0,none⟩))∧t'[6]?=some (.pointer (some ⟨w.heap.size+1,0,none⟩))∧W'.heap[w.heap.size]?=some (.cells #[.slice (some ⟨b,off,none⟩) R.length c] 25 (0,0))∧(∃ z:Array Value,W'.heap[w.heap.size+1]?=some (.cells z 128 (0,0))∧z.size=3)∧Below w.heap.size w W') ⟨by simp [Act.put,hsz],by simp [Act.put,q1],by simp [Act.put,q2],by simp [Act.put,hsz],by simp [Act.put,hsz],⟨(Below.heap_alloc _ _ _ (by simp)).trans (newS _ _),⟨z,by have:=newS (w.alloc (.cells #[.slice (some ⟨b,off,none⟩) R.length c] 25)) (.cells z 128);simpa using this,hz⟩,(jZd (Below.refl _ _)).trans ((jZd (Below.refl _ _)).mono (by simp))⟩⟩ ?_
 clear hsz q0 l0 e0 q1 l1 e1 q2 l2 e2 t z hz;rintro t Wa ⟨hsz,q1,q2,q3,q6,HX,⟨z6,HZ,hz6⟩,hB0⟩;have HXX:=hD HX;have HZZ:=hD HZ;have HB0:=hD hB0;replace HC:=hD (show ∀ k p,R[k]?=some p→Wa.rangeAt b (off+k*34) (jZj p) from fun k p hk=>pZi (HC.out k p hk) (hB0.block b hb));replace HN:=hD (HN.out.keep hB0);have hbl:b<Wa.heap.size:=Nat.lt_of_lt_of_le hb hB0.size
 have lxa:w.heap.size<Wa.heap.size:=ltS HX;have lza:w.heap.size+1<Wa.heap.size:=ltS HZ;have x0:=jZc HX 0;have c5:=HC.out i p0 HI.out 5 _ rfl;have c6:=HC.out i p0 HI.out 6 _ rfl;clear HX HZ hB0 hb;obtain ⟨l1,e1⟩:=gE q1;obtain ⟨l2,e2⟩:=gE q2;obtain ⟨l3,e3⟩:=gE q3;obtain ⟨l6,e6⟩:=gE q6
 refine jZe fun K hK=>?_
 refine wp_region_any (by kernel_rfl) ?_
 refine rZu 14 1 #[true,true,true,true,true,true,true,true,true,true,true,true,true,true,false] (by kernel_rfl) (by kernel_rfl) (XV (.pointer (some ⟨w.heap.size,0,none⟩)) :: XV (.slice (some ⟨b,off,none⟩) R.length c) :: XV (.int .i64 (i:Int)) :: XV (.pointer (some ⟨b,off+i*34,none⟩)) :: XV (.pointer (some ⟨b,off+i*34+5,none⟩)) :: XV (.slice p0.ca p0.n.cs.length p0.cc) :: XV (.pointer (some ⟨w.heap.size,0,none⟩)) :: XV (.slice (some ⟨b,off,none⟩) R.length c) :: XV (.int .i64 (i:Int)) :: XV (.pointer (some ⟨b,off+i*34,none⟩)) :: XV (.pointer (some ⟨b,off+i*34+6,none⟩)) :: XV (.slice p0.ra p0.n.rs.length p0.rc) :: XV (.agg (qZk p0 (.slice none 0 0)).toArray) :: (fun v w=>BxZ w v Wa.heap.size 128 3) :: []) (by show rgC _ t.size=true;rw [hsz];kernel_rfl) (by kernel_rfl) ?hTs ?hops ?hfin
 case hTs =>
  intro T hT;simp only [List.mem_cons,List.not_mem_nil,or_false] at hT
  rcases hT with rfl | rfl | rfl | rfl | rfl | rfl | rfl | rfl | rfl | rfl | rfl | rfl | rfl | rfl <;> first | exact qZn _ | exact qZo | exact kZh (fun v a b x g=>x.keep g) | exact kZh (fun v a b x g=>x)
 case hops =>
  refine ⟨jZb [(3,none)] (by kernel_rfl) rfl ?_,?_⟩
  ·intro act w' hw' h1;obtain ⟨hk,hf⟩:=evkf act;generalize act.eval=ρ at *;replace h1:ρ (.tmp 3)=.pointer (some ⟨w.heap.size,0,none⟩):=h1.trans (by simp [Act.eval,q3])
   refine gxB hw' fun K hK hc hf'=>?_
   go_simp;exact hK _ _ ⟨rfl,Gr.refl _⟩
  refine ⟨jZb [(12,some 0)] (by kernel_rfl) rfl ?_,?_⟩
  ·intro act w' hw' h1;obtain ⟨hk,hf⟩:=evkf act;generalize act.eval=ρ at *;replace h1:ρ (.tmp 12)=.pointer (some ⟨w.heap.size,0,none⟩):=h1
   refine gxB hw' fun K hK hc hf'=>?_
   go_simp;exact hK _ _ ⟨rfl,Gr.refl _⟩
  refine ⟨jZb [(1,none)] (by kernel_rfl) rfl ?_,?_⟩
  ·intro act w' hw' h1;obtain ⟨hk,hf⟩:=evkf act;generalize act.eval=ρ at *;replace h1:ρ (.tmp 1)=.int .i64 (i:Int):=h1.trans (by simp [Act.eval,q1])
   refine gxB hw' fun K hK hc hf'=>?_
   go_simp;exact hK _ _ ⟨rfl,Gr.refl _⟩
  refine ⟨jZb [(13,some 1),(14,some 2)] (by kernel_rfl) rfl ?_,?_⟩
  ·intro act w' hw' h1 h2;obtain ⟨hk,hf⟩:=evkf act;generalize act.eval=ρ at *;replace h1:ρ (.tmp 13)=.slice (some ⟨b,off,none⟩) R.length c:=h1;replace h2:ρ (.tmp 14)=.int .i64 (i:Int):=h2
   refine gxB hw' fun K hK hc hf'=>?_
   go_simp;exact hK _ _ ⟨rfl,Gr.refl _⟩
  refine ⟨jZb [(15,some 3)] (by kernel_rfl) rfl ?_,?_⟩
  ·intro act w' hw' h1;obtain ⟨hk,hf⟩:=evkf act;generalize act.eval=ρ at *;replace h1:ρ (.tmp 15)=.pointer (some ⟨b,off+i*34,none⟩):=h1
   refine gxB hw' fun K hK hc hf'=>?_
   go_simp;exact hK _ _ ⟨rfl,Gr.refl _⟩
  refine ⟨jZb [(16,some 4)] (by kernel_rfl) rfl ?_,?_⟩
  ·intro act w' hw' h1;obtain ⟨hk,hf⟩:=evkf act;generalize act.eval=ρ at *;replace h1:ρ (.tmp 16)=.pointer (some ⟨b,off+i*34+5,none⟩):=h1
   refine gxB hw' fun K hK hc hf'=>?_
   go_simp;exact hK _ _ ⟨rfl,Gr.refl _⟩
  refine ⟨jZb [(3,none)] (by kernel_rfl) rfl ?_,?_⟩
  ·intro act w' hw' h1;obtain ⟨hk,hf⟩:=evkf act;generalize act.eval=ρ at *;replace h1:ρ (.tmp 3)=.pointer (some ⟨w.heap.size,0,none⟩):=h1.trans (by simp [Act.eval,q3])
   refine gxB hw' fun K hK hc hf'=>?_
   go_simp;exact hK _ _ ⟨rfl,Gr.refl _⟩
  refine ⟨jZb [(18,some 6)] (by kernel_rfl) rfl ?_,?_⟩
  ·intro act w' hw' h1;obtain ⟨hk,hf⟩:=evkf act;generalize act.eval=ρ at *;replace h1:ρ (.tmp 18)=.pointer (some ⟨w.heap.size,0,none⟩):=h1
   refine gxB hw' fun K hK hc hf'=>?_
   go_simp;exact hK _ _ ⟨rfl,Gr.refl _⟩
  refine ⟨jZb [(1,none)] (by kernel_rfl) rfl ?_,?_⟩
  ·intro act w' hw' h1;obtain ⟨hk,hf⟩:=evkf act;generalize act.eval=ρ at *;replace h1:ρ (.tmp 1)=.int .i64 (i:Int):=h1.trans (by simp [Act.eval,q1])
   refine gxB hw' fun K hK hc hf'=>?_
   go_simp;exact hK _ _ ⟨rfl,Gr.refl _⟩
  refine ⟨jZb [(19,some 7),(20,some 8)] (by kernel_rfl) rfl ?_,?_⟩
  ·intro act w' hw' h1 h2;obtain ⟨hk,hf⟩:=evkf act;generalize act.eval=ρ at *;replace h1:ρ (.tmp 19)=.slice (some ⟨b,off,none⟩) R.length c:=h1;replace h2:ρ (.tmp 20)=.int .i64 (i:Int):=h2
   refine gxB hw' fun K hK hc hf'=>?_
   go_simp;exact hK _ _ ⟨rfl,Gr.refl _⟩
  refine ⟨jZb [(21,some 9)] (by kernel_rfl) rfl ?_,?_⟩
  ·intro act w' hw' h1;obtain ⟨hk,hf⟩:=evkf act;generalize act.eval=ρ at *;replace h1:ρ (.tmp 21)=.pointer (some ⟨b,off+i*34,none⟩):=h1
   refine gxB hw' fun K hK hc hf'=>?_
   go_simp;exact hK _ _ ⟨rfl,Gr.refl _⟩
  refine ⟨jZb [(22,some 10)] (by kernel_rfl) rfl ?_,?_⟩
  ·intro act w' hw' h1;obtain ⟨hk,hf⟩:=evkf act;generalize act.eval=ρ at *;replace h1:ρ (.tmp 22)=.pointer (some ⟨b,off+i*34+6,none⟩):=h1
   refine gxB hw' fun K hK hc hf'=>?_
   go_simp;exact hK _ _ ⟨rfl,Gr.refl _⟩
  refine ⟨jZb [(17,some 5),(23,some 11)] (by kernel_rfl) rfl ?_,?_⟩
  ·intro act w' hw' h1 h2;obtain ⟨hk,hf⟩:=evkf act;generalize act.eval=ρ at *;replace h1:ρ (.tmp 17)=.slice p0.ca p0.n.cs.length p0.cc:=h1;replace h2:ρ (.tmp 23)=.slice p0.ra p0.n.rs.length p0.rc:=h2
   refine gxB hw' fun K hK hc hf'=>?_
   go_simp;exact hK _ _ ⟨rfl,Gr.refl _⟩
  refine ⟨jZb [] (by kernel_rfl) rfl ?_,?_⟩
  ·intro act w' hw';obtain ⟨hk,hf⟩:=evkf act;generalize act.eval=ρ at *;refine qZs (fun K hK=>?_);obtain ⟨z,hz,hr⟩:=vZg (P:=Tryz.prog) (T:=128) w' fZu;simp only [execOp,Sem.run_bind,hr,Result.andThen_ok,Sem.run_pure];exact hK _ _ ⟨⟨_,z,rfl,(jZs hw'.out).size,newS _ _,hz⟩,Gr.alloc _ _⟩
  exact trivial
 case hfin =>
  intro w0 hg0;intro v12 t12;replace t12:v12=.pointer (some ⟨w.heap.size,0,none⟩):=t12;subst t12;intro v13 t13;replace t13:v13=.slice (some ⟨b,off,none⟩) R.length c:=t13;subst t13;intro v14 t14;replace t14:v14=.int .i64 (i:Int):=t14;subst t14;intro v15 t15;replace t15:v15=.pointer (some ⟨b,off+i*34,none⟩):=t15;subst t15;intro v16 t16;replace t16:v16=.pointer (some ⟨b,off+i*34+5,none⟩):=t16
  subst t16;intro v17 t17;replace t17:v17=.slice p0.ca p0.n.cs.length p0.cc:=t17;subst t17;intro v18 t18;replace t18:v18=.pointer (some ⟨w.heap.size,0,none⟩):=t18;subst t18;intro v19 t19;replace t19:v19=.slice (some ⟨b,off,none⟩) R.length c:=t19;subst t19;intro v20 t20;replace t20:v20=.int .i64 (i:Int):=t20;subst t20;intro v21 t21;replace t21:v21=.pointer (some ⟨b,off+i*34,none⟩):=t21;subst t21
  intro v22 t22;replace t22:v22=.pointer (some ⟨b,off+i*34+6,none⟩):=t22;subst t22;intro v23 t23;replace t23:v23=.slice p0.ra p0.n.rs.length p0.rc:=t23;subst t23;intro v24 t24;replace t24:v24=.agg (qZk p0 (.slice none 0 0)).toArray:=t24;subst t24;intro v7 t7;replace t7:(fun v w=>BxZ w v Wa.heap.size 128 3) v7 w0:=t7;have hb0:=jZs hg0.out;clear hg0
  simp only [finP,List.take_succ_cons,List.take_zero,Act.put,List.setIfInBounds_toArray,List.set_cons_succ,List.set_cons_zero];obtain ⟨gg,z,rfl,hgx,hhx,hzx⟩:=t7
  refine qZ1 14 128 (.tmp 7) (.tmp 24) gg 0 (qZk p0 (.slice none 0 0)) (by kernel_rfl) (by kernel_rfl) (by kernel_rfl) (by simp [Act.eval,Act.put,hsz]) (by simp [Act.eval,Act.put,hsz]) (pZb hhx (by rw [hzx];show 0+3≤3;omega)) bZb (dZh _ _ _ _) ?_;simp only [Exit.then];refine hK.out _ _ ?_;clear hK K
  refine jZy (fun t' W'=>t'.size=60∧t'[2]?=some (.slice B n cb)∧t'[3]?=some (.pointer (some ⟨w.heap.size,0,none⟩))∧t'[6]?=some (.pointer (some ⟨w.heap.size+1,0,none⟩))∧t'[7]?=some (.pointer (some ⟨gg,0,none⟩))∧W'.heap[gg]?=some (.cells (qZk p0 (.slice none 0 0)).toArray 128 (0,0))∧Below Wa.heap.size Wa W'∧Wa.heap.size≤gg) ⟨by simp [Act.put,hsz],by simp [Act.put,q2],by simp [Act.put,q3],by simp [Act.put,q6],by simp [Act.put,hsz],⟨eZo hhx hzx (qZk p0 (.slice none 0 0)) rfl,jZi hgx _ _ _ hb0,hgx⟩⟩ ?_
  clear hsz q1 l1 e1 q2 l2 e2 q3 l3 e3 q6 l6 e6 t x0 c5 c6 hdi z hhx hzx hgx hb0;rintro t Wb ⟨hsz,q2,q3,q6,q7,hgg,hbb,hgx⟩;have HGG:=hD hgg;have lgg:=ltS hgg;have HB1:=hD hbb;replace HC:=hD (show ∀ k p,R[k]?=some p→Wb.rangeAt b (off+k*34) (jZj p) from fun k p hk=>pZi (HC.out k p hk) (hbb.block b hbl));replace HN:=hD (HN.out.keep hbb);replace HXX:=hD ((hbb.block _ lxa).trans HXX.out)
  replace HZZ:=hD ((hbb.block _ lza).trans HZZ.out);have hsab:=hbb.size
  have hbl2:b<Wb.heap.size:=by omega
  have lxb:w.heap.size<Wb.heap.size:=by omega
  have hnxg:w.heap.size≠gg:=by omega
  have hnzg:w.heap.size+1≠gg:=by omega
  have hnbg:b≠gg:=by omega
  clear hgg hbb lxa lza
  refine jZe fun KE hKE=>?_
  obtain ⟨l2,e2⟩:=gE q2;obtain ⟨l3,e3⟩:=gE q3;obtain ⟨l6,e6⟩:=gE q6;obtain ⟨l7,e7⟩:=gE q7
  refine jZe fun K hK=>?_
  apply wp_region_lit
  repeat (first | go_step)
  refine hK.out _ _ ?_;clear hK K
  refine jZy (fun t' W'=>t'.size=60∧t'[2]?=some (.slice B n cb)∧t'[3]?=some (.pointer (some ⟨w.heap.size,0,none⟩))∧t'[6]?=some (.pointer (some ⟨w.heap.size+1,0,none⟩))∧t'[7]?=some (.pointer (some ⟨gg,0,none⟩))∧t'[8]?=some (.int .i64 ((0:Nat):Int))∧Wb=W') ⟨by simp [Act.put,hsz],by simp [Act.put,q2],by simp [Act.put,q3],by simp [Act.put,q6],by simp [Act.put,q7],by simp [Act.put,hsz],rfl⟩ ?_
  clear hsz q2 l2 e2 q3 l3 e3 q6 l6 e6 q7 l7 e7 t;rintro t _ ⟨hsz,q2,q3,q6,q7,q8,rfl⟩;apply wp_block
  refine wp_loop (fun a W=>∃ (t:Array Value) (k:Nat) (v:Value),a=⟨t,[]⟩∧k≤n∧t.size=60∧t[2]?=some (.slice B n cb)∧t[3]?=some (.pointer (some ⟨w.heap.size,0,none⟩))∧t[6]?=some (.pointer (some ⟨w.heap.size+1,0,none⟩))∧t[7]?=some (.pointer (some ⟨gg,0,none⟩))∧t[8]?=some (.int .i64 (k:Int))∧W.heap[gg]?=some (.cells (qZk p0 v).toArray 128 (0,0))∧W.ownsRow Wb.heap.size 39 9 v k ((cesF (R.map Nr.n) g (ks.take k)).map kZn).flatten∧Bl1 gg Wb W) (fun a _=>n-(intOf (a.tmps.getD 8 undef)).toNat) ⟨t,0,_,rfl,by omega,hsz,q2,q3,q6,q7,q8,HGG.out,⟨by simp [cesF],.inl ⟨rfl,rfl⟩⟩,Bl1.refl _ _⟩ ?_
  clear t hsz q2 q3 q6 q7 q8;rintro a W ⟨t,k,v,rfl,hk,hsz,q2,q3,q6,q7,q8,hg1,hO,hG⟩
  have hmu:intOf (t.getD 8 undef)=(k:Int):=by rw [Array.getD_eq_getD_getElem?,q8];rfl
  dsimp only
  rw [hmu];clear hmu;have HW:=hD (hG.toB (jZa HB0.out HB1.out) (Nat.le_trans HB0.out.size hgx));have x0:=jZc ((hG.block _ lxb (fun e=>hnxg (Option.some.inj e))).trans HXX.out) 0;have HO:=hD hO;have HG:=hD hG;have HG1:=hD hg1;have lx:w.heap.size<W.heap.size:=Nat.lt_of_lt_of_le lxb hG.size;clear hO hG hg1
  by_cases hlt:k<n
  ·have hd:decide ((k:Int)<(n:Int))=true:=by simpa using hlt
   refine jZe fun K1 hK1=>?_
   obtain ⟨l2,e2⟩:=gE q2;obtain ⟨l3,e3⟩:=gE q3;obtain ⟨l6,e6⟩:=gE q6;obtain ⟨l7,e7⟩:=gE q7;obtain ⟨l8,e8⟩:=gE q8
   refine jZe fun K hK=>?_
   apply wp_region_lit
   repeat (first | go_step)
   refine hK.out _ _ ?_;clear hK K
   refine jZy (fun t' W'=>t'.size=60∧t'[2]?=some (.slice B n cb)∧t'[3]?=some (.pointer (some ⟨w.heap.size,0,none⟩))∧t'[6]?=some (.pointer (some ⟨w.heap.size+1,0,none⟩))∧t'[7]?=some (.pointer (some ⟨gg,0,none⟩))∧t'[8]?=some (.int .i64 (k:Int))∧t'[28]?=some (.bool true)∧W=W') ⟨by simp [Act.put,hsz],by simp [Act.put,q2],by simp [Act.put,q3],by simp [Act.put,q6],by simp [Act.put,q7],by simp [Act.put,q8],by simp [Act.put,hsz,hd],rfl⟩ ?_
   clear hsz q2 l2 e2 q3 l3 e3 q6 l6 e6 q7 l7 e7 q8 l8 e8 t;rintro t _ ⟨hsz,q2,q3,q6,q7,q8,q28,rfl⟩;clear hd;refine wp_cond_true (by simp [Act.eval,q28]) ?_;apply wp_skip;simp only [Exit.then];refine hK1.out _ _ ?_;clear hK1 K1 q28
   refine jZe fun KB hKB=>?_
   apply wp_block
   have hkl:k<ks.length:=by rw [<- HNK.out];exact hlt
   have hkg:ks[k]?=some ks[k]:=List.getElem?_eq_getElem hkl;have hxl:ks[k]<R.length:=HKS.out _ (List.getElem_mem hkl);have hget:R[ks[k]]?=some R[ks[k]]:=List.getElem?_eq_getElem hxl;have hS1:=HS.out _ (List.getElem_mem hkl);have hsn:=eZ8 (L:=R.map Nr.n) (g:=g) hkg (m:=R[ks[k]].n) (by rw [List.getElem?_map,hget];rfl);obtain ⟨b2,off2,rfl,hb2,hp2⟩:=HN0.out.cells (by simp;omega)
   have cx0:=hp2 k (ks[k]:Int) (by rw [List.getElem?_map,hkg];rfl);have hrp:=HC0.out _ _ hget;generalize hxe:ks[k]=x at *;have hget2:R[x]?=some (R[x]'hxl):=List.getElem?_eq_getElem hxl;generalize (R[x]'hxl)=p at *
   have hd1:(k:Int)<(n:Int):=by omega
   have hd2:(x:Int)<(R.length:Int):=by omega
   have HCX:=hD (show ∀ W',Below w.heap.size w W'→W'.cell? ⟨b2,off2+k,none⟩=some (.int .i64 (x:Int)) from fun W' hW'=>(hW'.cell (p:=⟨b2,off2+k,none⟩) hb2).trans cx0);have cx:=HCX.out W HW.out;have lb2:b2<W.heap.size:=Nat.lt_of_lt_of_le hb2 HW.out.size;have hbl1:b<W.heap.size:=Nat.lt_of_lt_of_le hb0w HW.out.size
   have HRP:=hD (show W.rangeAt b (off+x*34) (jZj p) from pZi hrp (HW.out.block b hb0w));have HS1:=hD hS1;have HSN:=hD hsn;have hgg0:gg<W.heap.size:=ltS HG1.out;have HOL:=hD (show ∀ k,v.ownBlock=some k→k<W.heap.size from fun k e=>(HO.out.lt k e).2);have hb2':=hb2;clear hp2 hrp hS1 hsn hkg hget hget2 hxe hxl hkl cx0;obtain ⟨l2,e2⟩:=gE q2;obtain ⟨l3,e3⟩:=gE q3;obtain ⟨l6,e6⟩:=gE q6
   obtain ⟨l7,e7⟩:=gE q7;obtain ⟨l8,e8⟩:=gE q8
   refine jZe fun K hK=>?_
   refine wp_region_any (by kernel_rfl) ?_
   refine rZu 10 1 #[true,true,true,true,true,true,true,true,true,true,false] (by kernel_rfl) (by kernel_rfl) (XV (.pointer (some ⟨w.heap.size,0,none⟩)) :: XV (.slice (some ⟨b,off,none⟩) R.length c) :: XV (.slice (some ⟨b2,off2,none⟩) n cb) :: XV (.int .i64 (k:Int)) :: XV (.pointer (some ⟨b2,off2+k,none⟩)) :: XV (.int .i64 (x:Int)) :: XV (.pointer (some ⟨b,off+x*34,none⟩)) :: XV (.pointer (some ⟨b,off+x*34+16,none⟩)) :: XV (.agg (kZn p.n.ce).toArray) :: (fun v w=>BxZ w v W.heap.size 39 9) :: []) (by show rgC _ t.size=true;rw [hsz];kernel_rfl) (by kernel_rfl) ?hTs ?hops ?hfin
   case hTs =>
    intro T hT;simp only [List.mem_cons,List.not_mem_nil,or_false] at hT
    rcases hT with rfl | rfl | rfl | rfl | rfl | rfl | rfl | rfl | rfl | rfl <;> first | exact qZn _ | exact qZo | exact kZh (fun v a b x g=>x.keep g) | exact kZh (fun v a b x g=>x)
   case hops =>
    refine ⟨jZb [(3,none)] (by kernel_rfl) rfl ?_,?_⟩
    ·intro act w' hw' h1;obtain ⟨hk,hf⟩:=evkf act;generalize act.eval=ρ at *;replace h1:ρ (.tmp 3)=.pointer (some ⟨w.heap.size,0,none⟩):=h1.trans (by simp [Act.eval,q3])
     refine gxB hw' fun K hK hc hf'=>?_
     go_simp;exact hK _ _ ⟨rfl,Gr.refl _⟩
    refine ⟨jZb [(31,some 0)] (by kernel_rfl) rfl ?_,?_⟩
    ·intro act w' hw' h1;obtain ⟨hk,hf⟩:=evkf act;generalize act.eval=ρ at *;replace h1:ρ (.tmp 31)=.pointer (some ⟨w.heap.size,0,none⟩):=h1
     refine gxB hw' fun K hK hc hf'=>?_
     go_simp;exact hK _ _ ⟨rfl,Gr.refl _⟩
    refine ⟨jZb [(2,none)] (by kernel_rfl) rfl ?_,?_⟩
    ·intro act w' hw' h1;obtain ⟨hk,hf⟩:=evkf act;generalize act.eval=ρ at *;replace h1:ρ (.tmp 2)=.slice (some ⟨b2,off2,none⟩) n cb:=h1.trans (by simp [Act.eval,q2])
     refine gxB hw' fun K hK hc hf'=>?_
     go_simp;exact hK _ _ ⟨rfl,Gr.refl _⟩
    refine ⟨jZb [(8,none)] (by kernel_rfl) rfl ?_,?_⟩
    ·intro act w' hw' h1;obtain ⟨hk,hf⟩:=evkf act;generalize act.eval=ρ at *;replace h1:ρ (.tmp 8)=.int .i64 (k:Int):=h1.trans (by simp [Act.eval,q8])
     refine gxB hw' fun K hK hc hf'=>?_
     go_simp;exact hK _ _ ⟨rfl,Gr.refl _⟩
    refine ⟨jZb [(33,some 2),(34,some 3)] (by kernel_rfl) rfl ?_,?_⟩
    ·intro act w' hw' h1 h2;obtain ⟨hk,hf⟩:=evkf act;generalize act.eval=ρ at *;replace h1:ρ (.tmp 33)=.slice (some ⟨b2,off2,none⟩) n cb:=h1;replace h2:ρ (.tmp 34)=.int .i64 (k:Int):=h2
     refine gxB hw' fun K hK hc hf'=>?_
     go_simp;exact hK _ _ ⟨rfl,Gr.refl _⟩
    refine ⟨jZb [(35,some 4)] (by kernel_rfl) rfl ?_,?_⟩
    ·intro act w' hw' h1;obtain ⟨hk,hf⟩:=evkf act;generalize act.eval=ρ at *;replace h1:ρ (.tmp 35)=.pointer (some ⟨b2,off2+k,none⟩):=h1
     refine gxB hw' fun K hK hc hf'=>?_
     go_simp;exact hK _ _ ⟨rfl,Gr.refl _⟩
    refine ⟨jZb [(32,some 1),(36,some 5)] (by kernel_rfl) rfl ?_,?_⟩
    ·intro act w' hw' h1 h2;obtain ⟨hk,hf⟩:=evkf act;generalize act.eval=ρ at *;replace h1:ρ (.tmp 32)=.slice (some ⟨b,off,none⟩) R.length c:=h1;replace h2:ρ (.tmp 36)=.int .i64 (x:Int):=h2
     refine gxB hw' fun K hK hc hf'=>?_
     go_simp;exact hK _ _ ⟨rfl,Gr.refl _⟩
    refine ⟨jZb [(37,some 6)] (by kernel_rfl) rfl ?_,?_⟩
    ·intro act w' hw' h1;obtain ⟨hk,hf⟩:=evkf act;generalize act.eval=ρ at *;replace h1:ρ (.tmp 37)=.pointer (some ⟨b,off+x*34,none⟩):=h1
     refine gxB hw' fun K hK hc hf'=>?_
     go_simp;exact hK _ _ ⟨rfl,Gr.refl _⟩
    refine ⟨jZb [(38,some 7)] (by kernel_rfl) rfl ?_,?_⟩
    ·intro act w' hw' h1;obtain ⟨hk,hf⟩:=evkf act;generalize act.eval=ρ at *;replace h1:ρ (.tmp 38)=.pointer (some ⟨b,off+x*34+16,none⟩):=h1;refine qZs (fun K hK=>?_)
     simp only [execOp,h1,Instr.loadAt,Instr.sureAddr,Sem.run_bind,Sem.run_pure,Result.andThen_ok,run_loadVar_mid w' b (off+x*34+16) 39 (kZn p.n.ce) _ (pZi (kZw HRP.out) ((jZs hw'.out).block b hbl1)) Tryz.underlying39 rfl sZt];exact hK _ _ ⟨rfl,Gr.refl _⟩
    refine ⟨jZb [] (by kernel_rfl) rfl ?_,?_⟩
    ·intro act w' hw';obtain ⟨hk,hf⟩:=evkf act;generalize act.eval=ρ at *;refine qZs (fun K hK=>?_);obtain ⟨z,hz,hr⟩:=vZg (P:=Tryz.prog) (T:=39) w' fZ1;simp only [execOp,Sem.run_bind,hr,Result.andThen_ok,Sem.run_pure];exact hK _ _ ⟨⟨_,z,rfl,(jZs hw'.out).size,newS _ _,hz⟩,Gr.alloc _ _⟩
    exact trivial
   case hfin =>
    intro w1 hg1;intro v31 t31;replace t31:v31=.pointer (some ⟨w.heap.size,0,none⟩):=t31;subst t31;intro v32 t32;replace t32:v32=.slice (some ⟨b,off,none⟩) R.length c:=t32;subst t32;intro v33 t33;replace t33:v33=.slice (some ⟨b2,off2,none⟩) n cb:=t33;subst t33;intro v34 t34;replace t34:v34=.int .i64 (k:Int):=t34;subst t34;intro v35 t35;replace t35:v35=.pointer (some ⟨b2,off2+k,none⟩):=t35
    subst t35;intro v36 t36;replace t36:v36=.int .i64 (x:Int):=t36;subst t36;intro v37 t37;replace t37:v37=.pointer (some ⟨b,off+x*34,none⟩):=t37;subst t37;intro v38 t38;replace t38:v38=.pointer (some ⟨b,off+x*34+16,none⟩):=t38;subst t38;intro v39 t39;replace t39:v39=.agg (kZn p.n.ce).toArray:=t39;subst t39;intro v9 t9;replace t9:(fun v w=>BxZ w v W.heap.size 39 9) v9 w1:=t9
    have hb1:=jZs hg1.out;clear hg1;simp only [finP,List.take_succ_cons,List.take_zero,Act.put,List.setIfInBounds_toArray,List.set_cons_succ,List.set_cons_zero];obtain ⟨gx,z,rfl,hgx2,hhx,hzx⟩:=t9
    refine qZ1 10 39 (.tmp 9) (.tmp 39) gx 0 (kZn p.n.ce) (by kernel_rfl) (by kernel_rfl) (by kernel_rfl) (by simp [Act.eval,Act.put,hsz]) (by simp [Act.eval,Act.put,hsz]) (pZb hhx (by rw [hzx];show 0+9≤9;omega)) sZt (tZf _) ?_;simp only [Exit.then];refine hK.out _ _ ?_;clear hK K
    refine jZy (fun t' W'=>t'.size=60∧t'[2]?=some (.slice (some ⟨b2,off2,none⟩) n cb)∧t'[3]?=some (.pointer (some ⟨w.heap.size,0,none⟩))∧t'[6]?=some (.pointer (some ⟨w.heap.size+1,0,none⟩))∧t'[7]?=some (.pointer (some ⟨gg,0,none⟩))∧t'[8]?=some (.int .i64 (k:Int))∧t'[9]?=some (.pointer (some ⟨gx,0,none⟩))∧W'.heap[gx]?=some (.cells (kZn p.n.ce).toArray 39 (0,0))∧Below W.heap.size W W'∧W.heap.size≤gx) ⟨by simp [Act.put,hsz],by simp [Act.put,q2],by simp [Act.put,q3],by simp [Act.put,q6],by simp [Act.put,q7],by simp [Act.put,q8],by simp [Act.put,hsz],⟨eZo hhx hzx (kZn p.n.ce) rfl,jZi hgx2 _ _ _ hb1,hgx2⟩⟩ ?_
    clear hsz q2 l2 e2 q3 l3 e3 q6 l6 e6 q7 l7 e7 q8 l8 e8 t x0 lx hbl1 hd2 cx lb2 z hhx hzx hgx2 hb1;rintro t W1 ⟨hsz,q2,q3,q6,q7,q8,q9,hgp,hb2,hgx2⟩;have HGP:=hD hgp;replace HO:=hD (cZi HO.out hb2);have hsw:Wb.heap.size≤W.heap.size:=HG.out.size;replace HG:=hD (HG.out.below hb2);replace HW:=hD (jZa HW.out hb2);replace HG1:=hD ((hb2.block _ hgg0).trans HG1.out);clear hb2 hgp hgg0
    have y0:=jZc ((HG.out.block _ lxb (fun e=>hnxg (Option.some.inj e))).trans HXX.out) 0;have lx:w.heap.size<W1.heap.size:=Nat.lt_of_lt_of_le lxb HG.out.size;have cy:W1.cell? ⟨b2,off2+k,none⟩=some (.int .i64 (x:Int)):=HCX.out W1 HW.out;have lb2:b2<W1.heap.size:=Nat.lt_of_lt_of_le hb2' HW.out.size;obtain ⟨l2,e2⟩:=gE q2;obtain ⟨l3,e3⟩:=gE q3;obtain ⟨l6,e6⟩:=gE q6;obtain ⟨l7,e7⟩:=gE q7
    obtain ⟨l8,e8⟩:=gE q8;obtain ⟨l9,e9⟩:=gE q9
    refine jZe fun K hK=>?_
    refine wp_region_any (by kernel_rfl) ?_
    refine rZu 11 0 #[true,true,true,true,true,true,true,true,true,true,true] (by kernel_rfl) (by kernel_rfl) (XV (.agg #[.slice (some ⟨b,off,none⟩) R.length c]) :: XV (.slice (some ⟨b2,off2,none⟩) n cb) :: XV (.int .i64 (k:Int)) :: XV (.pointer (some ⟨b2,off2+k,none⟩)) :: XV (.int .i64 (x:Int)) :: XV (.tuple #[.int .i64 (g x).1,.int .i64 (g x).2]) :: XV (.tuple #[.int .i64 (g x).1,.int .i64 (g x).2]) :: XV (.int .i64 (g x).1) :: XV (.int .i64 (g x).2) :: XV (.int .i64 (g x).1) :: XV (.int .i64 (g x).2) :: []) (by show rgC _ t.size=true;rw [hsz];kernel_rfl) (by kernel_rfl) ?hTs ?hops ?hfin
    case hTs =>
     intro T hT;simp only [List.mem_cons,List.not_mem_nil,or_false] at hT
     rcases hT with rfl | rfl | rfl | rfl | rfl | rfl | rfl | rfl | rfl | rfl | rfl <;> first | exact qZn _ | exact qZo | exact kZh (fun v a b x g=>x.keep g) | exact kZh (fun v a b x g=>x)
    case hops =>
     refine ⟨jZb [(3,none)] (by kernel_rfl) rfl ?_,?_⟩
     ·intro act w' hw' h1;obtain ⟨hk,hf⟩:=evkf act;generalize act.eval=ρ at *;replace h1:ρ (.tmp 3)=.pointer (some ⟨w.heap.size,0,none⟩):=h1.trans (by simp [Act.eval,q3])
      refine gxB hw' fun K hK hc hf'=>?_
      go_simp;exact hK _ _ ⟨rfl,Gr.refl _⟩
     refine ⟨jZb [(2,none)] (by kernel_rfl) rfl ?_,?_⟩
     ·intro act w' hw' h1;obtain ⟨hk,hf⟩:=evkf act;generalize act.eval=ρ at *;replace h1:ρ (.tmp 2)=.slice (some ⟨b2,off2,none⟩) n cb:=h1.trans (by simp [Act.eval,q2])
      refine gxB hw' fun K hK hc hf'=>?_
      go_simp;exact hK _ _ ⟨rfl,Gr.refl _⟩
     refine ⟨jZb [(8,none)] (by kernel_rfl) rfl ?_,?_⟩
     ·intro act w' hw' h1;obtain ⟨hk,hf⟩:=evkf act;generalize act.eval=ρ at *;replace h1:ρ (.tmp 8)=.int .i64 (k:Int):=h1.trans (by simp [Act.eval,q8])
      refine gxB hw' fun K hK hc hf'=>?_
      go_simp;exact hK _ _ ⟨rfl,Gr.refl _⟩
     refine ⟨jZb [(42,some 1),(43,some 2)] (by kernel_rfl) rfl ?_,?_⟩
     ·intro act w' hw' h1 h2;obtain ⟨hk,hf⟩:=evkf act;generalize act.eval=ρ at *;replace h1:ρ (.tmp 42)=.slice (some ⟨b2,off2,none⟩) n cb:=h1;replace h2:ρ (.tmp 43)=.int .i64 (k:Int):=h2
      refine gxB hw' fun K hK hc hf'=>?_
      go_simp;exact hK _ _ ⟨rfl,Gr.refl _⟩
     refine ⟨jZb [(44,some 3)] (by kernel_rfl) rfl ?_,?_⟩
     ·intro act w' hw' h1;obtain ⟨hk,hf⟩:=evkf act;generalize act.eval=ρ at *;replace h1:ρ (.tmp 44)=.pointer (some ⟨b2,off2+k,none⟩):=h1
      refine gxB hw' fun K hK hc hf'=>?_
      go_simp;exact hK _ _ ⟨rfl,Gr.refl _⟩
     refine ⟨jZb [(41,some 0),(45,some 4)] (by kernel_rfl) rfl ?_,?_⟩
     ·intro act w' hw' h1 h2;obtain ⟨hk,hf⟩:=evkf act;generalize act.eval=ρ at *;replace h1:ρ (.tmp 41)=.agg #[.slice (some ⟨b,off,none⟩) R.length c]:=h1;replace h2:ρ (.tmp 45)=.int .i64 (x:Int):=h2
      refine gxB hw' fun K hK hc hf'=>?_
      go_simp
      (refine (HS1.out _ (jZa HW.out (jZs hw'.out))).mono ?_);rintro e w1 ⟨rfl,hb1⟩;exact ⟨_,rfl,hK _ _ ⟨rfl,hb1⟩⟩
     refine ⟨jZb [(46,some 5)] (by kernel_rfl) rfl ?_,?_⟩
     ·intro act w' hw' h1;obtain ⟨hk,hf⟩:=evkf act;generalize act.eval=ρ at *;replace h1:ρ (.tmp 46)=.tuple #[.int .i64 (g x).1,.int .i64 (g x).2]:=h1
      refine gxB hw' fun K hK hc hf'=>?_
      go_simp;exact hK _ _ ⟨rfl,Gr.refl _⟩
     refine ⟨jZb [(40,some 6)] (by kernel_rfl) rfl ?_,?_⟩
     ·intro act w' hw' h1;obtain ⟨hk,hf⟩:=evkf act;generalize act.eval=ρ at *;replace h1:ρ (.tmp 40)=.tuple #[.int .i64 (g x).1,.int .i64 (g x).2]:=h1
      refine gxB hw' fun K hK hc hf'=>?_
      go_simp;exact hK _ _ ⟨rfl,Gr.refl _⟩
     refine ⟨jZb [(40,some 6)] (by kernel_rfl) rfl ?_,?_⟩
     ·intro act w' hw' h1;obtain ⟨hk,hf⟩:=evkf act;generalize act.eval=ρ at *;replace h1:ρ (.tmp 40)=.tuple #[.int .i64 (g x).1,.int .i64 (g x).2]:=h1
      refine gxB hw' fun K hK hc hf'=>?_
      go_simp;exact hK _ _ ⟨rfl,Gr.refl _⟩
     refine ⟨jZb [(47,some 7)] (by kernel_rfl) rfl ?_,?_⟩
     ·intro act w' hw' h1;obtain ⟨hk,hf⟩:=evkf act;generalize act.eval=ρ at *;replace h1:ρ (.tmp 47)=.int .i64 (g x).1:=h1
      refine gxB hw' fun K hK hc hf'=>?_
      go_simp;exact hK _ _ ⟨rfl,Gr.refl _⟩
     refine ⟨jZb [(48,some 8)] (by kernel_rfl) rfl ?_,?_⟩
     ·intro act w' hw' h1;obtain ⟨hk,hf⟩:=evkf act;generalize act.eval=ρ at *;replace h1:ρ (.tmp 48)=.int .i64 (g x).2:=h1
      refine gxB hw' fun K hK hc hf'=>?_
      go_simp;exact hK _ _ ⟨rfl,Gr.refl _⟩
     exact trivial
    case hfin =>
     intro w2 hg2;intro v41 t41;replace t41:v41=.agg #[.slice (some ⟨b,off,none⟩) R.length c]:=t41;subst t41;intro v42 t42;replace t42:v42=.slice (some ⟨b2,off2,none⟩) n cb:=t42;subst t42;intro v43 t43;replace t43:v43=.int .i64 (k:Int):=t43;subst t43;intro v44 t44;replace t44:v44=.pointer (some ⟨b2,off2+k,none⟩):=t44;subst t44;intro v45 t45;replace t45:v45=.int .i64 (x:Int):=t45;subst t45
     intro v46 t46;replace t46:v46=.tuple #[.int .i64 (g x).1,.int .i64 (g x).2]:=t46;subst t46;intro v40 t40;replace t40:v40=.tuple #[.int .i64 (g x).1,.int .i64 (g x).2]:=t40;subst t40;intro v47 t47;replace t47:v47=.int .i64 (g x).1:=t47;subst t47;intro v48 t48;replace t48:v48=.int .i64 (g x).2:=t48;subst t48;intro v10 t10;replace t10:v10=.int .i64 (g x).1:=t10;subst t10;intro v11 t11
     replace t11:v11=.int .i64 (g x).2:=t11;subst t11;have hb2:=jZs hg2.out;clear hg2;simp only [finP,List.take_succ_cons,List.take_zero,Act.put,List.setIfInBounds_toArray,List.set_cons_succ,List.set_cons_zero];refine jZq (by kernel_rfl) ?_;simp only [Exit.then];refine hK.out _ _ ?_;clear hK K y0 cy
     refine jZy (fun t' W'=>t'.size=60∧t'[2]?=some (.slice (some ⟨b2,off2,none⟩) n cb)∧t'[3]?=some (.pointer (some ⟨w.heap.size,0,none⟩))∧t'[6]?=some (.pointer (some ⟨w.heap.size+1,0,none⟩))∧t'[7]?=some (.pointer (some ⟨gg,0,none⟩))∧t'[8]?=some (.int .i64 (k:Int))∧t'[9]?=some (.pointer (some ⟨gx,0,none⟩))∧t'[10]?=some (.int .i64 (g x).1)∧t'[11]?=some (.int .i64 (g x).2)∧W'.heap[gx]?=some (.cells (kZn p.n.ce).toArray 39 (0,0))∧Below W1.heap.size W1 W') ⟨by simp [Act.put,hsz],by simp [Act.put,q2],by simp [Act.put,q3],by simp [Act.put,q6],by simp [Act.put,q7],by simp [Act.put,q8],by simp [Act.put,q9],by simp [Act.put,hsz],by simp [Act.put,hsz],⟨(hb2.block _ (ltS HGP.out)).trans HGP.out,hb2⟩⟩ ?_
     clear hsz q2 l2 e2 q3 l3 e3 q6 l6 e6 q7 l7 e7 q8 l8 e8 q9 l9 e9 t hb2;rintro t W2 ⟨hsz,q2,q3,q6,q7,q8,q9,q10,q11,hgp,hb2⟩;replace HO:=hD (cZi HO.out hb2);replace HG1:=hD ((hb2.block _ (ltS HG1.out)).trans HG1.out);replace HG:=hD (HG.out.below hb2);clear hb2 lx lb2 HGP HW;have fz0:=jZm hgp 4;obtain ⟨y1,z1⟩:=pZz hgp (i:=4) (by show 4<9;omega);have lgx:=ltS hgp;obtain ⟨l2,e2⟩:=gE q2
     obtain ⟨l3,e3⟩:=gE q3;obtain ⟨l6,e6⟩:=gE q6;obtain ⟨l7,e7⟩:=gE q7;obtain ⟨l8,e8⟩:=gE q8;obtain ⟨l9,e9⟩:=gE q9;obtain ⟨l10,e10⟩:=gE q10;obtain ⟨l11,e11⟩:=gE q11
     refine jZe fun K hK=>?_
     apply wp_region_lit
     repeat (first | go_step)
     refine hK.out _ _ ?_;clear hK K
     refine jZy (fun t' W'=>t'.size=60∧t'[2]?=some (.slice (some ⟨b2,off2,none⟩) n cb)∧t'[3]?=some (.pointer (some ⟨w.heap.size,0,none⟩))∧t'[6]?=some (.pointer (some ⟨w.heap.size+1,0,none⟩))∧t'[7]?=some (.pointer (some ⟨gg,0,none⟩))∧t'[8]?=some (.int .i64 (k:Int))∧t'[9]?=some (.pointer (some ⟨gx,0,none⟩))∧t'[10]?=some (.int .i64 (g x).1)∧t'[11]?=some (.int .i64 (g x).2)∧W'.heap[gx]?=some (.cells ((kZn p.n.ce).toArray.setIfInBounds 4 (.int .i64 (g x).1)) 39 (0,0))∧W2.grownBy W' (some gx)) ⟨by simp [Act.put,hsz],by simp [Act.put,q2],by simp [Act.put,q3],by simp [Act.put,q6],by simp [Act.put,q7],by simp [Act.put,q8],by simp [Act.put,q9],by simp [Act.put,q10],by simp [Act.put,q11],⟨putS hgp _,bZ7 (rZz _ gx) _ _⟩⟩ ?_
     clear hsz q2 l2 e2 q3 l3 e3 q6 l6 e6 q7 l7 e7 q8 l8 e8 q9 l9 e9 q10 l10 e10 q11 l11 e11 t fz0 z1 y1 lgx;rintro t W3 ⟨hsz,q2,q3,q6,q7,q8,q9,q10,q11,hgp3,hgr3⟩;have fz0:=jZm hgp3 5;obtain ⟨y1,z1⟩:=pZz hgp3 (i:=5) (by show 5<9;omega);have lgx:=ltS hgp3;obtain ⟨l2,e2⟩:=gE q2;obtain ⟨l3,e3⟩:=gE q3;obtain ⟨l6,e6⟩:=gE q6;obtain ⟨l7,e7⟩:=gE q7;obtain ⟨l8,e8⟩:=gE q8;obtain ⟨l9,e9⟩:=gE q9
     obtain ⟨l10,e10⟩:=gE q10;obtain ⟨l11,e11⟩:=gE q11
     refine jZe fun K hK=>?_
     apply wp_region_lit
     repeat (first | go_step)
     refine hK.out _ _ ?_;clear hK K
     refine jZy (fun t' W'=>t'.size=60∧t'[2]?=some (.slice (some ⟨b2,off2,none⟩) n cb)∧t'[3]?=some (.pointer (some ⟨w.heap.size,0,none⟩))∧t'[6]?=some (.pointer (some ⟨w.heap.size+1,0,none⟩))∧t'[7]?=some (.pointer (some ⟨gg,0,none⟩))∧t'[8]?=some (.int .i64 (k:Int))∧t'[9]?=some (.pointer (some ⟨gx,0,none⟩))∧t'[10]?=some (.int .i64 (g x).1)∧t'[11]?=some (.int .i64 (g x).2)∧W'.heap[gx]?=some (.cells (kZn (ceOf p.n (g x))).toArray 39 (0,0))∧W2.grownBy W' (some gx)) ⟨by simp [Act.put,hsz],by simp [Act.put,q2],by simp [Act.put,q3],by simp [Act.put,q6],by simp [Act.put,q7],by simp [Act.put,q8],by simp [Act.put,q9],by simp [Act.put,q10],by simp [Act.put,q11],⟨putS hgp3 _,bZ7 hgr3 _ _⟩⟩ ?_
     clear hsz q2 l2 e2 q3 l3 e3 q6 l6 e6 q7 l7 e7 q8 l8 e8 q9 l9 e9 q10 l10 e10 q11 l11 e11 t fz0 z1 y1 lgx hgp3 hgr3;rintro t W4 ⟨hsz,q2,q3,q6,q7,q8,q9,q10,q11,hgp4,hgr4⟩;have hgxb:Wb.heap.size≤gx:=Nat.le_trans hsw hgx2
     have hne:∀ k,v.ownBlock=some k→k<gx:=fun k e=>Nat.lt_of_lt_of_le (HOL.out k e) hgx2
     have HO4:=hD (bZy HO.out hgr4 (fun e=>absurd (hne _ e) (Nat.lt_irrefl _)));have HG4:=hD (HG.out.grown hgr4 hgxb)
     have hggx:gg≠gx:=by omega
     replace HG1:=hD ((hgr4.block gg (ltS HG1.out) (fun e=>hggx (Option.some.inj e))).trans HG1.out);clear HO HG hgr4 hgp;have HR:=hD (show W4.rangeAt gx 0 (kZn (ceOf p.n (g x))) from fun j v hj=>by rw [Nat.zero_add];exact (jZc hgp4 j).trans (by simpa using hj));have hob:∀ b,v.ownBlock=some b→Wb.heap.size≤b∧b<W4.heap.size:=HO4.out.lt;have hw4:Wb.heap.size≤W4.heap.size:=HG4.out.size
     have v2:=jZc HG1.out 2;rw [show (qZk p0 v).toArray[2]?=some v from rfl] at v2;have lg4:=ltS HG1.out;obtain ⟨vA,vc,rfl⟩:=gZk HO4.out;obtain ⟨l2,e2⟩:=gE q2;obtain ⟨l3,e3⟩:=gE q3;obtain ⟨l6,e6⟩:=gE q6;obtain ⟨l7,e7⟩:=gE q7;obtain ⟨l8,e8⟩:=gE q8;obtain ⟨l9,e9⟩:=gE q9;obtain ⟨l10,e10⟩:=gE q10;obtain ⟨l11,e11⟩:=gE q11;apply wp_region_lit
     repeat (first|((with_reducible show wpList _ _ _ _ _ _);refine ldK 39 _ [.int .i64 p.n.ce.co,.int .i64 p.n.ce.ro,.int .i64 p.n.ce.mc,.int .i64 p.n.ce.mr,.int .i64 (g x).1,.int .i64 (g x).2,.int .i64 p.n.ce.sk,.int .i64 p.n.ce.px,.int .i64 p.n.ce.py] gx 0 rfl rfl HR.out Tryz.underlying39 rfl sZt (by simp [Act.eval,Act.put,hsz,e9]) ?_)|((with_reducible show wpList _ _ _ _ _ _);refine wpList_append_own _ rfl _ _ 126 rfl Wb.heap.size 39 ti tz 9 72 Tryz.underlying126 ti1 ti2 ti3 ti4 ti5 (by decide) (.slice vA k vc) _ _ (by simp [Act.eval,Act.put,hsz]) (HO4.out.alloc _) ⟨W4.heap.size,0,none⟩ 1 1 (kZn (ceOf p.n (g x))) (by simp [Act.eval,Act.put,hsz]) rfl (newK _ (kZn (ceOf p.n (g x))) _) (tZf _) (by simp only [maxLen];omega) (by omega) (by simp;omega) ?_) | go_step)
     intro v5 w5 how5 hgr5 _;have hG5:=HG4.out.own hgr5 (fun k e=>(hob k e).1);rw [show ((cesF (R.map Nr.n) g (ks.take k)).map kZn).flatten ++ kZn (ceOf p.n (g x))=((cesF (R.map Nr.n) g (ks.take (k+1))).map kZn).flatten by rw [HSN.out,List.map_append,List.flatten_append];simp] at how5
     have hg5:w5.heap[gg]?=some (.cells (qZk p0 (.slice vA k vc)).toArray 128 (0,0)):=(hgr5.block gg (by simp;omega) (fun e=>by have:=(hob gg e.symm).1;omega)).trans ((Below.heap_alloc _ _ _ (by omega)).trans HG1.out);obtain ⟨vB,vd,rfl⟩:=gZk how5;have fz0:=jZm hg5 2;have z1:=jZc hg5 2;rw [show (qZk p0 (.slice vA k vc)).toArray[2]?=some (.slice vA k vc) from rfl] at z1
     have lg5:=ltS hg5;clear v2 lg4
     repeat go_step
     try simp only [Exit.inBlock]
     refine hKB.out _ _ ?_;clear hKB KB
     refine jZy (fun t' W'=>t'.size=60∧t'[2]?=some (.slice (some ⟨b2,off2,none⟩) n cb)∧t'[3]?=some (.pointer (some ⟨w.heap.size,0,none⟩))∧t'[6]?=some (.pointer (some ⟨w.heap.size+1,0,none⟩))∧t'[7]?=some (.pointer (some ⟨gg,0,none⟩))∧t'[8]?=some (.int .i64 (k:Int))∧W'.heap[gg]?=some (.cells (qZk p0 (.slice vB (k+1) vd)).toArray 128 (0,0))∧W'.ownsRow Wb.heap.size 39 9 (.slice vB (k+1) vd) (k+1) ((cesF (R.map Nr.n) g (ks.take (k+1))).map kZn).flatten∧Bl1 gg Wb W') ⟨by simp [Act.put,hsz],by simp [Act.put,q2],by simp [Act.put,q3],by simp [Act.put,q6],by simp [Act.put,q7],by simp [Act.put,q8],⟨putS hg5 _,bZy how5 (bZ7 (rZz _ gg) _ _) (fun e=>by have:=(how5.lt gg e).1;omega),bZ7 hG5 _ _⟩⟩ ?_
     clear hsz q2 l2 e2 q3 l3 e3 q6 l6 e6 q7 l7 e7 q8 l8 e8 q9 l9 e9 q10 l10 e10 q11 l11 e11 t hob hw4 hgxb hne HR hgp4 fz0 z1 lg5;rintro t W6 ⟨hsz,q2,q3,q6,q7,q8,hgF,hOF,hGF⟩;obtain ⟨l2,e2⟩:=gE q2;obtain ⟨l3,e3⟩:=gE q3;obtain ⟨l6,e6⟩:=gE q6;obtain ⟨l7,e7⟩:=gE q7;obtain ⟨l8,e8⟩:=gE q8;apply wp_region_lit
     repeat go_step
     try simp only [Exit.then]
     refine ⟨⟨_,k+1,_,rfl,by omega,by simp [hsz],by simp [q2],by simp [q3],by simp [q6],by simp [q7],by simp [hsz],hgF,hOF,hGF⟩,?_⟩
     ·simp [hsz,intOf]
      omega
  ·have hd:decide ((k:Int)<(n:Int))=false:=decide_eq_false (by omega)
   refine jZe fun K1 hK1=>?_
   obtain ⟨l2,e2⟩:=gE q2;obtain ⟨l3,e3⟩:=gE q3;obtain ⟨l6,e6⟩:=gE q6;obtain ⟨l7,e7⟩:=gE q7;obtain ⟨l8,e8⟩:=gE q8
   refine jZe fun K hK=>?_
   apply wp_region_lit
   repeat (first | go_step)
   refine hK.out _ _ ?_;clear hK K
   refine jZy (fun t' W'=>t'.size=60∧t'[2]?=some (.slice B n cb)∧t'[3]?=some (.pointer (some ⟨w.heap.size,0,none⟩))∧t'[6]?=some (.pointer (some ⟨w.heap.size+1,0,none⟩))∧t'[7]?=some (.pointer (some ⟨gg,0,none⟩))∧t'[8]?=some (.int .i64 (k:Int))∧t'[28]?=some (.bool false)∧W=W') ⟨by simp [Act.put,hsz],by simp [Act.put,q2],by simp [Act.put,q3],by simp [Act.put,q6],by simp [Act.put,q7],by simp [Act.put,q8],by simp [Act.put,hsz,hd],rfl⟩ ?_
   clear hsz q2 l2 e2 q3 l3 e3 q6 l6 e6 q7 l7 e7 q8 l8 e8 t;rintro t _ ⟨hsz,q2,q3,q6,q7,q8,q28,rfl⟩;refine wp_cond_false (by simp [Act.eval,q28]) ?_;apply wp_exit;simp only [Exit.then,Exit.inBlock,if_true];refine hKE.out _ _ ?_;clear hd q28
   obtain rfl:k=n:=by omega
   have hall:ks.take k=ks:=List.take_of_length_le (by rw [HNK.out];exact Nat.le_refl _);have hO:=HO.out;rw [hall] at hO
   have hlen:k=((cesF (R.map Nr.n) g ks).map kZn).length:=by
    have:=uZ1 (L:=R.map Nr.n) (g:=g) (ks:=ks) (by simpa using HKS.out) k (by rw [HNK.out];exact Nat.le_refl _)
    rw [hall] at this;rw [List.length_map,this]
   obtain ⟨A',c',rfl,hrv,_⟩:=own_rvK hO hlen (fun vs hv=>by obtain ⟨q,_,rfl⟩:=List.mem_map.1 hv;rfl);have HRV:=hD hrv;have HR:=hD (show W.rangeAt gg 0 (qZk p0 (.slice A' k c')) from fun j v hj=>by rw [Nat.zero_add];exact (jZc HG1.out j).trans (by simpa using hj))
   have HTH:=hD (show W.there (w.heap.size+1) 0 (qZk p0 (.slice A' k c')).length from pZb ((HG.out.block _ (by have:=ltS HZZ.out;omega) (fun e=>hnzg (Option.some.inj e))).trans HZZ.out) (by rw [hz6];show 0+3≤3;omega));clear hO hlen hall hrv lx x0;obtain ⟨l2,e2⟩:=gE q2;obtain ⟨l3,e3⟩:=gE q3;obtain ⟨l6,e6⟩:=gE q6;obtain ⟨l7,e7⟩:=gE q7;obtain ⟨l8,e8⟩:=gE q8
   refine jZe fun K hK=>?_
   apply wp_region_lit
   repeat (first|((with_reducible show wpList _ _ _ _ _ _);refine ldK 128 _ (qZk p0 (.slice A' k c')) gg 0 rfl rfl HR.out Tryz.underlying128 rfl bZb (by simp [Act.eval,Act.put,hsz,e7]) ?_)|((with_reducible show wpList _ _ _ _ _ _);refine stK 128 _ _ (qZk p0 (.slice A' k c')) (w.heap.size+1) 0 rfl rfl HTH.out bZb (dZh _ _ _ _) (by simp [Act.eval,Act.put,hsz,e6]) (by simp [Act.eval,Act.put,hsz]) ?_) | go_step)
   refine hK.out _ _ ?_;clear hK K;apply wp_ret;refine qZm 6 128 (w.heap.size+1) (qZk p0 (.slice A' k c')) Tryz.results113 ?_ (World.rangeAt_setCells_same _ _ _ _ HTH.out) Tryz.underlying128 rfl bZb rfl ⟨⟨A',c',rfl,?_⟩,jZi (by omega) _ _ _ HW.out⟩
   ·simp [Act.put,hsz,e6]
   ·refine cev_of (fun h0=>?_);obtain ⟨b9,off9,e9',hb9,hp9⟩:=HRV.out h0
    have hne:b9≠w.heap.size+1:=by
     rintro rfl
     have:=HO.out.lt _ (by rw [e9'];rfl)
     dsimp only at this
     have:=ltS HZZ.out
     omega
    exact ⟨b9,off9,e9',by rw [pZr];exact hb9,fun i vs hi=>pZi (hp9 i vs hi) (jZv hne _ _ _)⟩
end
theorem kid_no0 {R:List Nr} (h:TrOK (R.map Nr.n)) (i:Nat):sZb R (i:Int) 0=false:=by
 rw [hZx];unfold kidB
 cases hn:(R.map Nr.n)[0]? with
 | none=>rfl
 | some n =>
  rcases h.up 0 n hn with ⟨_,e⟩ | ⟨e,_⟩
  ·show (n.pa == (i:Int))=false
   rw [e];simp only [beq_eq_false_iff_ne,ne_eq];omega
  ·omega
theorem hZc {L:List Nd} (h:TrOK L) (ks:List Nat):∀ p∈pksF L (szM L) ks,p.big:=fun p hp=>pk_bd h (fun k _=>szM_bd h k) p hp
theorem ces_w {L:List Nd} (h:TrOK L) {i:Nat} {n:Nd} (hn:L[i]?=some n) (h1:n.ki=1):(∀ p∈cesF L (szM L) (kidD L i),smW p)∧pZ7 n.cs.length ((cesF L (szM L) (kidD L i)).map acM)∧pZ7 n.rs.length ((cesF L (szM L) (kidD L i)).map dnM)∧(cesF L (szM L) (kidD L i)).length≤10:=by
 have hp:=ce_bd h hn h1 (fun k _=>szM_bd h k);have hl:=Nat.le_trans (hZ7 L (szM L) (kidD L i)) (Nat.le_trans (sZo L i) h.l10);refine ⟨fun p hm=>by have:=hp p hm;unfold smW;omega,⟨by simpa using hl,fun s hs=>?_⟩,⟨by simpa using hl,fun s hs=>?_⟩,hl⟩
 ·obtain ⟨p,hm,rfl⟩:=List.mem_map.1 hs
  have:=hp p hm
  refine ⟨p.co.toNat,p.mc.toNat,?_,?_,?_,?_,?_,?_⟩ <;> first | omega|(unfold acM;dsimp only;omega)
 ·obtain ⟨p,hm,rfl⟩:=List.mem_map.1 hs
  have:=hp p hm
  refine ⟨p.ro.toNat,p.mr.toNat,?_,?_,?_,?_,?_,?_⟩ <;> first | omega|(unfold dnM;dsimp only;omega)
end Go.Proofs.YtfnpdlnepjhljaaGreat
