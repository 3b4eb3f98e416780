import Derived.Test.YtenckjdiggaonaaGreatQ02
import Derived.LoopTactic
import Derived.OwnWalk
import Derived.Lib.SmallJoins
import Derived.Deep.Cut
set_option linter.unusedVariables false
set_option maxRecDepth 100000
namespace Go.Proofs.YtenckjdiggaonaaGreat
section
open Go.RowKit
set_option maxHeartbeats 1000000
theorem pvalidSide_any (k:Int) (w:World):Calls Tryz.prog 161 #[.int .i64 k] w fun e w'=>e=.returned (.bool (rng k 0 3))∧w=w':=by
 go_enter Tryz.func161,Tryz.ntmps161
 go_wp2_with (go_at_call 83;refine (within_any _ _ _ _).mono ?_;rintro e w' ⟨rfl,rfl⟩)
 go_ret
 exact ⟨ret_bool rfl,rfl⟩
theorem pvalidAnchor_any (k:Int) (w:World):Calls Tryz.prog 162 #[.int .i64 k] w fun e w'=>e=.returned (.bool (rng k 0 8))∧w=w':=by
 go_enter Tryz.func162,Tryz.ntmps162
 go_wp2_with (go_at_call 83;refine (within_any _ _ _ _).mono ?_;rintro e w' ⟨rfl,rfl⟩)
 go_ret
 exact ⟨ret_bool rfl,rfl⟩
theorem psvalidSide_any (k:Int) (w:World):Calls Tryz.prog 150 #[.int .i64 k] w fun e w'=>e=.returned (.bool (rng k 0 3))∧w=w':=by
 go_enter Tryz.func150,Tryz.ntmps150
 go_wp2_with (go_at_call 61;refine (inRange_any _ _ _ _).mono ?_;rintro e w' ⟨rfl,rfl⟩)
 go_ret
 exact ⟨ret_bool rfl,rfl⟩
theorem psvalidAnchor_any (k:Int) (w:World):Calls Tryz.prog 151 #[.int .i64 k] w fun e w'=>e=.returned (.bool (rng k 0 8))∧w=w':=by
 go_enter Tryz.func151,Tryz.ntmps151
 go_wp2_with (go_at_call 61;refine (inRange_any _ _ _ _).mono ?_;rintro e w' ⟨rfl,rfl⟩)
 go_ret
 exact ⟨ret_bool rfl,rfl⟩
theorem vp_n12 {w h s an px py:Int} (h1:(rng w 0 30 && rng h 0 30)=false):vpB w h s an px py=false:=by
 cases a:rng w 0 30 <;> cases b:rng h 0 30 <;> simp [vpB,a,b] at h1 ⊢
theorem validPack_any (w0 h0 s:Int) (fx fy ex:Bool) (an px py:Int) (w:World):Calls Tryz.prog 122 #[.agg #[.int .i64 w0,.int .i64 h0,.int .i64 s,.bool fx,.bool fy,.bool ex,.int .i64 an,.int .i64 px,.int .i64 py]] w fun e w'=>e=.returned (.bool (vpB w0 h0 s an px py))∧Below w.heap.size w w':=by
 cases hw:(rng w0 0 30 && rng h0 0 30)
 ·go_enter Tryz.func122,Tryz.ntmps122
  go_wp2_with (first | (go_at_call 92;refine (validWish_w _ _ _ _ hw).mono ?_;rintro e w' ⟨rfl,rfl⟩) | (go_at_call 83;refine (within_any _ _ _ _).mono ?_;rintro e w' ⟨rfl,rfl⟩) | (go_at_call 161;refine (pvalidSide_any _ _).mono ?_;rintro e w' ⟨rfl,rfl⟩) | (go_at_call 162;refine (pvalidAnchor_any _ _).mono ?_;rintro e w' ⟨rfl,rfl⟩))
  go_ret
  exact ⟨ret_bool (by rw [vp_n12 hw]),(Below.refl _ _).alloc (Nat.le_refl _) _⟩
 have h1:rng w0 0 30=true:=(Bool.and_eq_true _ _ ▸ hw).1
 have h2:rng h0 0 30=true:=(Bool.and_eq_true _ _ ▸ hw).2
 cases h3:rng s 0 3
 ·go_enter Tryz.func122,Tryz.ntmps122
  go_wp2_with (first | (go_at_call 92;refine (validWish_w _ _ _ _ hw).mono ?_;rintro e w' ⟨rfl,rfl⟩) | (go_at_call 83;refine (within_any _ _ _ _).mono ?_;rintro e w' ⟨rfl,rfl⟩) | (go_at_call 161;refine (pvalidSide_any _ _).mono ?_;rintro e w' ⟨rfl,rfl⟩) | (go_at_call 162;refine (pvalidAnchor_any _ _).mono ?_;rintro e w' ⟨rfl,rfl⟩))
  go_ret
  exact ⟨ret_bool (by rw [vp_n3 h3]),(Below.refl _ _).alloc (Nat.le_refl _) _⟩
 cases h4:rng an 0 8
 ·go_enter Tryz.func122,Tryz.ntmps122
  go_wp2_with (first | (go_at_call 92;refine (validWish_w _ _ _ _ hw).mono ?_;rintro e w' ⟨rfl,rfl⟩) | (go_at_call 83;refine (within_any _ _ _ _).mono ?_;rintro e w' ⟨rfl,rfl⟩) | (go_at_call 161;refine (pvalidSide_any _ _).mono ?_;rintro e w' ⟨rfl,rfl⟩) | (go_at_call 162;refine (pvalidAnchor_any _ _).mono ?_;rintro e w' ⟨rfl,rfl⟩))
  go_ret
  exact ⟨ret_bool (by rw [vp_n4 h4]),(Below.refl _ _).alloc (Nat.le_refl _) _⟩
 cases h5:rng px 0 10
 ·go_enter Tryz.func122,Tryz.ntmps122
  go_wp2_with (first | (go_at_call 92;refine (validWish_w _ _ _ _ hw).mono ?_;rintro e w' ⟨rfl,rfl⟩) | (go_at_call 83;refine (within_any _ _ _ _).mono ?_;rintro e w' ⟨rfl,rfl⟩) | (go_at_call 161;refine (pvalidSide_any _ _).mono ?_;rintro e w' ⟨rfl,rfl⟩) | (go_at_call 162;refine (pvalidAnchor_any _ _).mono ?_;rintro e w' ⟨rfl,rfl⟩))
  go_ret
  exact ⟨ret_bool (by rw [vp_n5 h5]),(Below.refl _ _).alloc (Nat.le_refl _) _⟩
 go_enter Tryz.func122,Tryz.ntmps122
 go_wp2_with (first | (go_at_call 92;refine (validWish_w _ _ _ _ hw).mono ?_;rintro e w' ⟨rfl,rfl⟩) | (go_at_call 83;refine (within_any _ _ _ _).mono ?_;rintro e w' ⟨rfl,rfl⟩) | (go_at_call 161;refine (pvalidSide_any _ _).mono ?_;rintro e w' ⟨rfl,rfl⟩) | (go_at_call 162;refine (pvalidAnchor_any _ _).mono ?_;rintro e w' ⟨rfl,rfl⟩))
 go_ret
 exact ⟨ret_bool (by rw [vp_n6 h1 h2 h3 h4 h5]),(Below.refl _ _).alloc (Nat.le_refl _) _⟩
theorem specValidPack_any (w0 h0 s:Int) (fx fy ex:Bool) (an px py:Int) (w:World):Calls Tryz.prog 110 #[.agg #[.int .i64 w0,.int .i64 h0,.int .i64 s,.bool fx,.bool fy,.bool ex,.int .i64 an,.int .i64 px,.int .i64 py]] w fun e w'=>e=.returned (.bool (vpB w0 h0 s an px py))∧Below w.heap.size w w':=by
 cases h1:rng w0 0 30
 ·go_enter Tryz.func110,Tryz.ntmps110
  go_wp2_with (first | (go_at_call 61;refine (inRange_any _ _ _ _).mono ?_;rintro e w' ⟨rfl,rfl⟩) | (go_at_call 150;refine (psvalidSide_any _ _).mono ?_;rintro e w' ⟨rfl,rfl⟩) | (go_at_call 151;refine (psvalidAnchor_any _ _).mono ?_;rintro e w' ⟨rfl,rfl⟩))
  go_ret
  exact ⟨ret_bool (by rw [vp_n1 h1]),(Below.refl _ _).alloc (Nat.le_refl _) _⟩
 cases h2:rng h0 0 30
 ·go_enter Tryz.func110,Tryz.ntmps110
  go_wp2_with (first | (go_at_call 61;refine (inRange_any _ _ _ _).mono ?_;rintro e w' ⟨rfl,rfl⟩) | (go_at_call 150;refine (psvalidSide_any _ _).mono ?_;rintro e w' ⟨rfl,rfl⟩) | (go_at_call 151;refine (psvalidAnchor_any _ _).mono ?_;rintro e w' ⟨rfl,rfl⟩))
  go_ret
  exact ⟨ret_bool (by rw [vp_n2 h2]),(Below.refl _ _).alloc (Nat.le_refl _) _⟩
 cases h3:rng s 0 3
 ·go_enter Tryz.func110,Tryz.ntmps110
  go_wp2_with (first | (go_at_call 61;refine (inRange_any _ _ _ _).mono ?_;rintro e w' ⟨rfl,rfl⟩) | (go_at_call 150;refine (psvalidSide_any _ _).mono ?_;rintro e w' ⟨rfl,rfl⟩) | (go_at_call 151;refine (psvalidAnchor_any _ _).mono ?_;rintro e w' ⟨rfl,rfl⟩))
  go_ret
  exact ⟨ret_bool (by rw [vp_n3 h3]),(Below.refl _ _).alloc (Nat.le_refl _) _⟩
 cases h4:rng an 0 8
 ·go_enter Tryz.func110,Tryz.ntmps110
  go_wp2_with (first | (go_at_call 61;refine (inRange_any _ _ _ _).mono ?_;rintro e w' ⟨rfl,rfl⟩) | (go_at_call 150;refine (psvalidSide_any _ _).mono ?_;rintro e w' ⟨rfl,rfl⟩) | (go_at_call 151;refine (psvalidAnchor_any _ _).mono ?_;rintro e w' ⟨rfl,rfl⟩))
  go_ret
  exact ⟨ret_bool (by rw [vp_n4 h4]),(Below.refl _ _).alloc (Nat.le_refl _) _⟩
 cases h5:rng px 0 10
 ·go_enter Tryz.func110,Tryz.ntmps110
  go_wp2_with (first | (go_at_call 61;refine (inRange_any _ _ _ _).mono ?_;rintro e w' ⟨rfl,rfl⟩) | (go_at_call 150;refine (psvalidSide_any _ _).mono ?_;rintro e w' ⟨rfl,rfl⟩) | (go_at_call 151;refine (psvalidAnchor_any _ _).mono ?_;rintro e w' ⟨rfl,rfl⟩))
  go_ret
  exact ⟨ret_bool (by rw [vp_n5 h5]),(Below.refl _ _).alloc (Nat.le_refl _) _⟩
 go_enter Tryz.func110,Tryz.ntmps110
 go_wp2_with (first | (go_at_call 61;refine (inRange_any _ _ _ _).mono ?_;rintro e w' ⟨rfl,rfl⟩) | (go_at_call 150;refine (psvalidSide_any _ _).mono ?_;rintro e w' ⟨rfl,rfl⟩) | (go_at_call 151;refine (psvalidAnchor_any _ _).mono ?_;rintro e w' ⟨rfl,rfl⟩))
 go_ret
 exact ⟨ret_bool (by rw [vp_n6 h1 h2 h3 h4 h5]),(Below.refl _ _).alloc (Nat.le_refl _) _⟩
end
section
open Go.RowKit
set_option maxHeartbeats 1000000
theorem cellH {w:World} {b:Nat} {cs:Array Value} {T:TypeId} {fz:Nat × Nat} (h:w.heap[b]?=some (.cells cs T fz)) (i:Nat):w.cell? ⟨b,i,none⟩=cs[i]?:=by simp [World.cell?,h]
theorem heap_new (w:World) (o:Obj):(w.alloc o).heap[w.heap.size]?=some o:=by
 show (w.heap.push o)[w.heap.size]?=some o
 simp
theorem b9c {w:World} {b:Nat} {a0 a1 a2 a3 a4 a5 a6 a7 a8:Value} {T:TypeId} {fz:Nat × Nat} (h:w.heap[b]?=some (.cells #[a0,a1,a2,a3,a4,a5,a6,a7,a8] T fz)) :
  w.cell? ⟨b,0,none⟩=some a0∧w.cell? ⟨b,1,none⟩=some a1∧w.cell? ⟨b,2,none⟩=some a2∧w.cell? ⟨b,3,none⟩=some a3∧w.cell? ⟨b,4,none⟩=some a4∧w.cell? ⟨b,5,none⟩=some a5∧w.cell? ⟨b,6,none⟩=some a6∧w.cell? ⟨b,7,none⟩=some a7∧w.cell? ⟨b,8,none⟩=some a8 :=
 ⟨cellH h 0,cellH h 1,cellH h 2,cellH h 3,cellH h 4,cellH h 5,cellH h 6,cellH h 7,cellH h 8⟩
theorem toPack_any (w0 h0 s:Int) (fx fy ex:Bool) (an px py:Int) (w:World):Calls Tryz.prog 118 #[.agg #[.int .i64 w0,.int .i64 h0,.int .i64 s,.bool fx,.bool fy,.bool ex,.int .i64 an,.int .i64 px,.int .i64 py]] w fun e w'=>e=.returned (.agg #[.int .i64 w0,.int .i64 h0,.int .i64 s,.bool fx,.bool fy,.bool ex,.int .i64 an,.int .i64 px,.int .i64 py])∧Below w.heap.size w w':=by
 go_enter Tryz.func118,Tryz.ntmps118
 go_wp2
 exact bodyPost_ret (v:=.agg #[.int .i64 w0,.int .i64 h0,.int .i64 s,.bool fx,.bool fy,.bool ex,.int .i64 an,.int .i64 px,.int .i64 py]) (by simp only [results,Tryz.results118];go_simp) rfl ⟨rfl,(by repeat (first | with_reducible exact Below.refl _ _ | with_reducible assumption | with_reducible refine balloc ?_ | (with_reducible refine bset ?_ ?_;rotate_left;((try dsimp only);omega)) | refine bkeep2 ?_ (by assumption) | with_reducible refine Below.drew ?_))⟩
end
section
open Go.RowKit
set_option maxHeartbeats 1000000
def sumI:List Int→Int
 | []=>0
 | x :: t=>x+sumI t
theorem sumI_append:∀ (A B:List Int),sumI (A ++ B)=sumI A+sumI B
 | [],B=>by simp [sumI]
 | x :: t,B=>by simp [sumI,sumI_append t B];omega
theorem sumI_snoc {L:List Int} {k:Nat} {x:Int} (h:L[k]?=some x):sumI (L.take (k+1))=sumI (L.take k)+x:=by
 obtain ⟨hk,e⟩:=List.getElem?_eq_some_iff.1 h
 rw [List.take_succ_eq_append_getElem hk,sumI_append,e]
 simp [sumI]
theorem sumI_bd {lo hi:Int}:∀ {L:List Int},(∀ x ∈ L,lo≤x∧x≤hi)→lo*L.length≤sumI L∧sumI L≤hi*L.length
 | [],_=>by simp [sumI]
 | x :: t,h=>by
  have h1:=sumI_bd (L:=t) (fun q hq=>h q (List.mem_cons_of_mem _ hq))
  have h2:=h x List.mem_cons_self
  simp only [sumI,List.length_cons]
  have e1:lo*((t.length+1:Nat):Int)=lo*t.length+lo:=by rw [Int.natCast_succ,Int.mul_add,Int.mul_one]
  have e2:hi*((t.length+1:Nat):Int)=hi*t.length+hi:=by rw [Int.natCast_succ,Int.mul_add,Int.mul_one]
  rw [e1,e2];omega
def Smal (M:Int) (L:List Int):Prop:=∀ k,-M≤sumI (L.take k)∧sumI (L.take k)≤M
theorem smal_of {b M:Int} {L:List Int} (h:∀ x ∈ L,-b≤x∧x≤b) (hb:0≤b) (hl:b*L.length≤M):Smal M L:=fun k=>by
 have:=sumI_bd (L:=L.take k) (fun x hx=>h x (List.mem_of_mem_take hx))
 have hk:((L.take k).length:Int)≤L.length:=by rw [List.length_take];omega
 have h1:b*((L.take k).length:Int)≤b*L.length:=Int.mul_le_mul_of_nonneg_left hk hb
 have h2:-b*((L.take k).length:Int)=-(b*((L.take k).length:Int)):=by rw [Int.neg_mul]
 rw [h2] at this
 omega
structure NV (w:World) (A:Option Addr) (L:List Int):Prop where
 cells:0<L.length→∃ b off,A=some ⟨b,off,none⟩∧b<w.heap.size∧∀ i x,L[i]?=some x→w.cell? ⟨b,off+i,none⟩=some (.int .i64 x)
theorem NV.keep {w w':World} {A:Option Addr} {L:List Int} (h:NV w A L) (hb:Below w.heap.size w w'):NV w' A L :=
 ⟨fun h0=>let ⟨b,off,e,hl,hp⟩:=h.cells h0;⟨b,off,e,Nat.lt_of_lt_of_le hl hb.size,fun i x hx=>(hb.cell (p:=⟨b,off+i,none⟩) hl).trans (hp i x hx)⟩⟩
theorem NV.nil (w:World) (A:Option Addr):NV w A []:=⟨fun h=>absurd h (by simp)⟩
theorem NV.sub {w:World} {b off:Nat} {L:List Int} (hb:b<w.heap.size) (h:∀ i x,L[i]?=some x→w.cell? ⟨b,off+i,none⟩=some (.int .i64 x)) (i j:Nat):NV w (some ⟨b,off+i,none⟩) ((L.drop i).take j) :=
 ⟨fun _=>⟨b,off+i,rfl,hb,fun k x hx=>by
  rw [List.getElem?_take] at hx
  split at hx
  ·rw [List.getElem?_drop] at hx
   have:=h (i+k) x hx
   rwa [<- Nat.add_assoc] at this
  ·cases hx⟩⟩
def ivals (L:List Int):Array Value:=(L.map (Value.int .i64)).toArray
def IB (w:World) (g:Nat) (L:List Int):Prop:=w.heap[g]?=some (.cells (ivals L) 3 (0,0))
theorem IB.lt {w:World} {g:Nat} {L:List Int} (h:IB w g L):g<w.heap.size:=(gE h).1
theorem IB.cell {w:World} {g i:Nat} {L:List Int} {x:Int} (h:IB w g L) (hx:L[i]?=some x):w.cell? ⟨g,i,none⟩=some (.int .i64 x):=by
 have h':w.heap[g]?=some (.cells (ivals L) 3 (0,0)):=h
 simp [World.cell?,h',ivals,hx]
theorem IB.frozen {w:World} {g:Nat} {L:List Int} (h:IB w g L) (i:Nat):w.frozen? ⟨g,i,none⟩=false:=by
 have h':w.heap[g]?=some (.cells (ivals L) 3 (0,0)):=h
 simp [World.frozen?,h']
theorem IB.keep {w w':World} {g:Nat} {L:List Int} (h:IB w g L) (hb:Below w.heap.size w w'):IB w' g L:=(hb.block g h.lt).trans h
theorem IB.set {w:World} {g:Nat} {L:List Int} (h:IB w g L) (i:Nat) (x:Int):IB (w.setCell ⟨g,i,none⟩ (.int .i64 x)) g (L.set i x):=by
 have h':w.heap[g]?=some (.cells (ivals L) 3 (0,0)):=h
 show _=_
 simp [World.setCell,Array.getElem?_modify,h',ivals,List.map_set]
theorem IB.nv {w:World} {g:Nat} {L:List Int} (h:IB w g L):NV w (some ⟨g,0,none⟩) L :=
 ⟨fun _=>⟨g,0,rfl,h.lt,fun i x hx=>by rw [Nat.zero_add];exact h.cell hx⟩⟩
theorem madeI:∀ (n:Nat) (w:World),n≤1048576→(Instr.makeSlice 37 (.int .i64 (n:Int)) (.int .i64 (n:Int))).run Tryz.prog w=.ok (.slice (some ⟨w.heap.size,0,none⟩) n n) (w.alloc (.cells (ivals (List.replicate n 0)) 3)):=by
 intro n w hn
 have hinfo:(Tryz.prog.info? 3).map (fun i=>(i.zero,i.size,i.bytes))=some (some (.int .i64 0),1,8):=by kernel_rfl
 obtain ⟨i,hi,h1,h2,h3⟩:=info_parts hinfo
 have hr:=run_make (P:=Tryz.prog) w 37 3 i _ Tryz.underlying37 hi h1 .i64 .i64 n n (by omega) (Int.le_refl _) (by rw [h3];omega) (by omega)
 rw [h2] at hr
 have e:madeCells (Value.int .i64 0).cells (n*1)=ivals (List.replicate n 0):=by
  apply Array.ext
  ·rw [size_madeCells];simp [ivals]
  ·intro i h1 h2
   simp [madeCells,ivals,Value.cells,Nat.mod_one]
 rw [Int.toNat_natCast,e] at hr
 simpa using hr
theorem makeI_b (n:Nat) (w:World):IB (w.alloc (.cells (ivals (List.replicate n 0)) 3)) w.heap.size (List.replicate n 0):=by
 show (w.heap.push _)[w.heap.size]?=_
 simp
theorem sum_v (A:Option Addr) (c:Nat) (L:List Int) (w:World) (h:NV w A L) (hL:L.length≤1048576) (hM:Smal 1000000000000000 L) :
  Calls Tryz.prog 210 #[.slice A L.length c] w fun e w'=>e=.returned (.int .i64 (sumI L))∧w=w':=by
 have HM:=hD hM
 clear hM
 go_enter Tryz.func210,Tryz.ntmps210
 go_wp2_with fail
 go_loop [3,8] (fun s i=>∃ k:Nat,k≤L.length∧i=.int .i64 k∧s=.int .i64 (sumI (L.take k))) (fun _ i=>L.length - (intOf i).toNat)
 case atStart=>exact ⟨0,by omega,rfl,rfl⟩
 case round =>
  obtain ⟨k,hk,rfl,rfl⟩:=hrel
  by_cases hlt:k<L.length
  ·have hd:decide ((k:Int)<(L.length:Int))=true:=by simpa using hlt
   obtain ⟨b,off,rfl,hb,hp⟩:=h.cells (by omega)
   have hget:L[k]?=some L[k]:=List.getElem?_eq_getElem hlt
   have c0:=hp k _ hget
   generalize hx:L[k]=x at *
   have hs:=sumI_snoc hget
   have b1:=HM.out k
   have b2:=HM.out (k+1)
   rw [hs] at b2
   obtain ⟨S,hS⟩:∃ S,sumI (L.take k)=S:=⟨_,rfl⟩
   rw [hS] at b1 b2 hs
   rw [hS]
   have HS:=hD hs
   clear hs hS hget hx hp
   go_wp2
   go_round
   case rel=>exact ⟨k+1,by omega,by go_num,by rw [HS.out]⟩
   case measure=>simp [intOf];omega
  ·have hd:decide ((k:Int)<(L.length:Int))=false:=by simp;omega
   have he:L.take k=L:=List.take_of_length_le (by omega)
   rw [he]
   clear he
   go_wp2
   go_ret
   exact ⟨rfl,rfl⟩
theorem total_v (A:Option Addr) (c:Nat) (L:List Int) (w:World) (h:NV w A L) (hL:L.length≤1048576) (hM:Smal 1000000000000000 L) :
  Calls Tryz.prog 142 #[.slice A L.length c] w fun e w'=>e=.returned (.int .i64 (sumI L))∧w=w':=by
 have HM:=hD hM
 clear hM
 go_enter Tryz.func142,Tryz.ntmps142
 go_wp2_with fail
 go_loop [3,4] (fun s i=>∃ k:Nat,k≤L.length∧i=.int .i64 k∧s=.int .i64 (sumI (L.take k))) (fun _ i=>L.length - (intOf i).toNat)
 case atStart=>exact ⟨0,by omega,rfl,rfl⟩
 case round =>
  obtain ⟨k,hk,rfl,rfl⟩:=hrel
  by_cases hlt:k<L.length
  ·have hd:decide ((k:Int)<(L.length:Int))=true:=by simpa using hlt
   obtain ⟨b,off,rfl,hb,hp⟩:=h.cells (by omega)
   have hget:L[k]?=some L[k]:=List.getElem?_eq_getElem hlt
   have c0:=hp k _ hget
   generalize hx:L[k]=x at *
   have hs:=sumI_snoc hget
   have b1:=HM.out k
   have b2:=HM.out (k+1)
   rw [hs] at b2
   obtain ⟨S,hS⟩:∃ S,sumI (L.take k)=S:=⟨_,rfl⟩
   rw [hS] at b1 b2 hs
   rw [hS]
   have HS:=hD hs
   clear hs hS hget hx hp
   go_wp2
   go_round
   case rel=>exact ⟨k+1,by omega,by go_num,by rw [HS.out]⟩
   case measure=>simp [intOf];omega
  ·have hd:decide ((k:Int)<(L.length:Int))=false:=by simp;omega
   have he:L.take k=L:=List.take_of_length_le (by omega)
   rw [he]
   clear he
   go_wp2
   go_ret
   exact ⟨rfl,rfl⟩
end
section
open Go.RowKit
set_option maxHeartbeats 1000000
theorem inRange_q (n a b:Int) (t:Bool) (w:World) (h:rng n a b=t):Calls Tryz.prog 61 #[.int .i64 n,.int .i64 a,.int .i64 b] w fun e w'=>e=.returned (.bool t)∧w=w':=by rw [<- h];exact inRange_any n a b w
theorem within_q (n a b:Int) (t:Bool) (w:World) (h:rng n a b=t):Calls Tryz.prog 83 #[.int .i64 n,.int .i64 a,.int .i64 b] w fun e w'=>e=.returned (.bool t)∧w=w':=by rw [<- h];exact within_any n a b w
theorem shift_t (n:Int) (t:Bool) (w:World) (h:shB n=t):Calls Tryz.prog 164 #[.int .i64 n] w fun e w'=>e=.returned (.bool t)∧w=w':=by
 go_enter Tryz.func164,Tryz.ntmps164
 go_wp2_with (go_at_call 83;refine (within_q _ _ _ t _ h).mono ?_;rintro e w' ⟨rfl,rfl⟩)
 go_ret
 exact ⟨rfl,rfl⟩
theorem rel_t (n:Int) (t:Bool) (w:World) (h:reB n=t):Calls Tryz.prog 165 #[.int .i64 n] w fun e w'=>e=.returned (.bool t)∧w=w':=by
 go_enter Tryz.func165,Tryz.ntmps165
 go_wp2_with (go_at_call 83;refine (within_q _ _ _ t _ h).mono ?_;rintro e w' ⟨rfl,rfl⟩)
 go_ret
 exact ⟨rfl,rfl⟩
theorem anch_t (k:Int) (t:Bool) (w:World) (h:rng k 0 8=t):Calls Tryz.prog 162 #[.int .i64 k] w fun e w'=>e=.returned (.bool t)∧w=w':=by
 go_enter Tryz.func162,Tryz.ntmps162
 go_wp2_with (go_at_call 83;refine (within_q _ _ _ t _ h).mono ?_;rintro e w' ⟨rfl,rfl⟩)
 go_ret
 exact ⟨rfl,rfl⟩
theorem sanch_t (k:Int) (t:Bool) (w:World) (h:rng k 0 8=t):Calls Tryz.prog 151 #[.int .i64 k] w fun e w'=>e=.returned (.bool t)∧w=w':=by
 go_enter Tryz.func151,Tryz.ntmps151
 go_wp2_with (go_at_call 61;refine (inRange_q _ _ _ t _ h).mono ?_;rintro e w' ⟨rfl,rfl⟩)
 go_ret
 exact ⟨rfl,rfl⟩
theorem all_snocQ {f:Int→Bool} {L:List Int} {k:Nat} {p:Int} (h:L[k]?=some p):(L.take (k+1)).all f=((L.take k).all f && f p):=by
 have hk:k<L.length:=(List.getElem?_eq_some_iff.1 h).1
 have e:L[k]=p:=(List.getElem?_eq_some_iff.1 h).2
 rw [List.take_succ_eq_append_getElem hk,e]
 simp
theorem new_q (w:World) (o:Obj):(w.alloc o).heap[w.heap.size]?=some o:=by
 show (w.heap.push o)[w.heap.size]?=some o
 simp
theorem newq1 (w:World) (o o':Obj):((w.alloc o).alloc o').heap[w.heap.size+1]?=some o':=by
 have:=new_q (w.alloc o) o';rwa [World.size_alloc] at this
theorem newq2 (w:World) (o o' o2:Obj):(((w.alloc o).alloc o').alloc o2).heap[w.heap.size+1+1]?=some o2:=by
 have:=newq1 (w.alloc o) o' o2;rwa [World.size_alloc] at this
theorem cl_q {w:World} {b:Nat} {cs:Array Value} {T:TypeId} {fz:Nat × Nat} (h:w.heap[b]?=some (.cells cs T fz)) (i:Nat):w.cell? ⟨b,i,none⟩=cs[i]?:=by simp [World.cell?,h]
theorem nv4 {w:World} {g:Nat} {a b c d:Int} {T:TypeId} {fz:Nat × Nat} (h:w.heap[g]?=some (.cells #[.int .i64 a,.int .i64 b,.int .i64 c,.int .i64 d] T fz)):NV w (some ⟨g,0,none⟩) [a,b,c,d] :=
 ⟨fun _=>⟨g,0,rfl,(gE h).1,fun i x hx=>by
  rw [Nat.zero_add,cl_q h]
  match i,hx with
  | 0,hx=>simpa using hx
  | 1,hx=>simpa using hx
  | 2,hx=>simpa using hx
  | 3,hx=>simpa using hx
  | i+4,hx=>simp at hx⟩⟩
theorem allSh (A:Option Addr) (c:Nat) (L:List Int) (t:Bool) (w:World) (h:NV w A L) (hL:L.length≤1048576) (ht:L.all shB=t) :
  Calls Tryz.prog 163 #[.slice A L.length c,.func (.func 164) #[] #[]] w fun e w'=>e=.returned (.bool t)∧w=w':=by
 subst ht
 go_enter Tryz.func163,Tryz.ntmps163
 go_wp2_with fail
 go_loop [9] (fun i=>∃ k:Nat,k≤L.length∧i=.int .i64 k∧(L.take k).all shB=true) (fun i=>L.length - (intOf i).toNat)
 case atStart=>exact ⟨0,by omega,rfl,rfl⟩
 case round =>
  obtain ⟨k,hk,rfl,hok⟩:=hrel
  by_cases hlt:k<L.length
  ·have hd:decide ((k:Int)<(L.length:Int))=true:=by simpa using hlt
   obtain ⟨b,off,rfl,hb,hp⟩:=h.cells (by omega)
   have hget:L[k]?=some L[k]:=List.getElem?_eq_getElem hlt
   have c0:=hp k _ hget
   generalize hx:L[k]=p at *
   have HG:=hD hget
   have HX:=hD hx
   have HO:=hD hok
   have HP:=hD hp
   clear hget hx hok hp
   cases hv:shB p
   all_goals
    have Hv:=hD hv
    clear hv
    go_wp2_with fail
    first | (with_reducible refine (shift_t p false _ Hv.out).mono ?_) | (with_reducible refine (shift_t p true _ Hv.out).mono ?_)
    rintro e w1 ⟨rfl,rfl⟩
    go_wp2
   ·go_ret
    exact ⟨ret_bool (by
     symm
     rw [Bool.eq_false_iff]
     intro hh
     have h1:=List.all_eq_true.1 hh p (List.mem_of_getElem? HG.out)
     rw [Hv.out] at h1
     cases h1),rfl⟩
   ·go_round
    case rel=>exact ⟨k+1,by omega,by go_num,by rw [all_snocQ HG.out,HO.out,Hv.out];rfl⟩
    case measure=>simp [intOf];omega
  ·have hd:decide ((k:Int)<(L.length:Int))=false:=by simp;omega
   have he:L.take k=L:=List.take_of_length_le (by omega)
   rw [he] at hok
   have HO:=hD hok
   clear hok he
   go_wp2
   go_ret
   exact ⟨ret_bool HO.out.symm,rfl⟩
theorem allRe (A:Option Addr) (c:Nat) (L:List Int) (t:Bool) (w:World) (h:NV w A L) (hL:L.length≤1048576) (ht:L.all reB=t) :
  Calls Tryz.prog 163 #[.slice A L.length c,.func (.func 165) #[] #[]] w fun e w'=>e=.returned (.bool t)∧w=w':=by
 subst ht
 go_enter Tryz.func163,Tryz.ntmps163
 go_wp2_with fail
 go_loop [9] (fun i=>∃ k:Nat,k≤L.length∧i=.int .i64 k∧(L.take k).all reB=true) (fun i=>L.length - (intOf i).toNat)
 case atStart=>exact ⟨0,by omega,rfl,rfl⟩
 case round =>
  obtain ⟨k,hk,rfl,hok⟩:=hrel
  by_cases hlt:k<L.length
  ·have hd:decide ((k:Int)<(L.length:Int))=true:=by simpa using hlt
   obtain ⟨b,off,rfl,hb,hp⟩:=h.cells (by omega)
   have hget:L[k]?=some L[k]:=List.getElem?_eq_getElem hlt
   have c0:=hp k _ hget
   generalize hx:L[k]=p at *
   have HG:=hD hget
   have HX:=hD hx
   have HO:=hD hok
   have HP:=hD hp
   clear hget hx hok hp
   cases hv:reB p
   all_goals
    have Hv:=hD hv
    clear hv
    go_wp2_with fail
    first | (with_reducible refine (rel_t p false _ Hv.out).mono ?_) | (with_reducible refine (rel_t p true _ Hv.out).mono ?_)
    rintro e w1 ⟨rfl,rfl⟩
    go_wp2
   ·go_ret
    exact ⟨ret_bool (by
     symm
     rw [Bool.eq_false_iff]
     intro hh
     have h1:=List.all_eq_true.1 hh p (List.mem_of_getElem? HG.out)
     rw [Hv.out] at h1
     cases h1),rfl⟩
   ·go_round
    case rel=>exact ⟨k+1,by omega,by go_num,by rw [all_snocQ HG.out,HO.out,Hv.out];rfl⟩
    case measure=>simp [intOf];omega
  ·have hd:decide ((k:Int)<(L.length:Int))=false:=by simp;omega
   have he:L.take k=L:=List.take_of_length_le (by omega)
   rw [he] at hok
   have HO:=hD hok
   clear hok he
   go_wp2
   go_ret
   exact ⟨ret_bool HO.out.symm,rfl⟩
theorem allSh4 {g:Nat} {x y z u:Int} {T:TypeId} {fz:Nat × Nat} (t:Bool) (w:World) (h:w.heap[g]?=some (.cells #[.int .i64 x,.int .i64 y,.int .i64 z,.int .i64 u] T fz)) (ht:[x,y,z,u].all shB=t) :
  Calls Tryz.prog 163 #[.slice (some ⟨g,0,none⟩) 4 4,.func (.func 164) #[] #[]] w fun e w'=>e=.returned (.bool t)∧w=w':=allSh _ 4 [x,y,z,u] t w (nv4 h) (by simp) ht
theorem allRe4 {g:Nat} {x y z u:Int} {T:TypeId} {fz:Nat × Nat} (t:Bool) (w:World) (h:w.heap[g]?=some (.cells #[.int .i64 x,.int .i64 y,.int .i64 z,.int .i64 u] T fz)) (ht:[x,y,z,u].all reB=t) :
  Calls Tryz.prog 163 #[.slice (some ⟨g,0,none⟩) 4 4,.func (.func 165) #[] #[]] w fun e w'=>e=.returned (.bool t)∧w=w':=allRe _ 4 [x,y,z,u] t w (nv4 h) (by simp) ht
end
section
open Go.RowKit
set_option maxHeartbeats 1000000
theorem svalidPlace_t (p:Plc) (t:Bool) (w:World) (h:plB p=t):Calls Tryz.prog 111 #[.agg #[.int .i64 p.x,.int .i64 p.y,.int .i64 p.rx,.int .i64 p.ry,.int .i64 p.ww,.int .i64 p.hh,.int .i64 p.qw,.int .i64 p.qh,.int .i64 p.an]] w fun e w'=>e=.returned (.bool t)∧Below w.heap.size w w':=by
 cases h1:rng p.x (-300) 300
 ·have ht:false=t:=by rw [<- h];simp [plB,shB,reB,h1]
  subst ht
  go_enter Tryz.func111,Tryz.ntmps111
  go_wp2_with fail
  with_reducible refine (inRange_q _ _ _ false _ h1).mono ?_
  rintro e w1 ⟨rfl,rfl⟩
  go_wp2
  go_ret
  exact ⟨rfl,(by repeat (first | with_reducible exact Below.refl _ _ | with_reducible assumption | with_reducible refine balloc ?_ | (with_reducible refine bset ?_ ?_;rotate_left;((try dsimp only);omega)) | refine bkeep2 ?_ (by assumption) | with_reducible refine Below.drew ?_))⟩
 cases h2:rng p.y (-300) 300
 ·have ht:false=t:=by rw [<- h];simp [plB,shB,reB,h2]
  subst ht
  go_enter Tryz.func111,Tryz.ntmps111
  go_wp2_with fail
  with_reducible refine (inRange_q _ _ _ true _ h1).mono ?_
  rintro e w1 ⟨rfl,rfl⟩
  go_wp2_with fail
  with_reducible refine (inRange_q _ _ _ false _ h2).mono ?_
  rintro e w1 ⟨rfl,rfl⟩
  go_wp2
  go_ret
  exact ⟨rfl,(by repeat (first | with_reducible exact Below.refl _ _ | with_reducible assumption | with_reducible refine balloc ?_ | (with_reducible refine bset ?_ ?_;rotate_left;((try dsimp only);omega)) | refine bkeep2 ?_ (by assumption) | with_reducible refine Below.drew ?_))⟩
 cases h3:rng p.rx 0 1000
 ·have ht:false=t:=by rw [<- h];simp [plB,shB,reB,h3]
  subst ht
  go_enter Tryz.func111,Tryz.ntmps111
  go_wp2_with fail
  with_reducible refine (inRange_q _ _ _ true _ h1).mono ?_
  rintro e w1 ⟨rfl,rfl⟩
  go_wp2_with fail
  with_reducible refine (inRange_q _ _ _ true _ h2).mono ?_
  rintro e w1 ⟨rfl,rfl⟩
  go_wp2_with fail
  with_reducible refine (inRange_q _ _ _ false _ h3).mono ?_
  rintro e w1 ⟨rfl,rfl⟩
  go_wp2
  go_ret
  exact ⟨rfl,(by repeat (first | with_reducible exact Below.refl _ _ | with_reducible assumption | with_reducible refine balloc ?_ | (with_reducible refine bset ?_ ?_;rotate_left;((try dsimp only);omega)) | refine bkeep2 ?_ (by assumption) | with_reducible refine Below.drew ?_))⟩
 cases h4:rng p.ry 0 1000
 ·have ht:false=t:=by rw [<- h];simp [plB,shB,reB,h4]
  subst ht
  go_enter Tryz.func111,Tryz.ntmps111
  go_wp2_with fail
  with_reducible refine (inRange_q _ _ _ true _ h1).mono ?_
  rintro e w1 ⟨rfl,rfl⟩
  go_wp2_with fail
  with_reducible refine (inRange_q _ _ _ true _ h2).mono ?_
  rintro e w1 ⟨rfl,rfl⟩
  go_wp2_with fail
  with_reducible refine (inRange_q _ _ _ true _ h3).mono ?_
  rintro e w1 ⟨rfl,rfl⟩
  go_wp2_with fail
  with_reducible refine (inRange_q _ _ _ false _ h4).mono ?_
  rintro e w1 ⟨rfl,rfl⟩
  go_wp2
  go_ret
  exact ⟨rfl,(by repeat (first | with_reducible exact Below.refl _ _ | with_reducible assumption | with_reducible refine balloc ?_ | (with_reducible refine bset ?_ ?_;rotate_left;((try dsimp only);omega)) | refine bkeep2 ?_ (by assumption) | with_reducible refine Below.drew ?_))⟩
 cases h5:rng p.ww (-300) 300
 ·have ht:false=t:=by rw [<- h];simp [plB,shB,reB,h5]
  subst ht
  go_enter Tryz.func111,Tryz.ntmps111
  go_wp2_with fail
  with_reducible refine (inRange_q _ _ _ true _ h1).mono ?_
  rintro e w1 ⟨rfl,rfl⟩
  go_wp2_with fail
  with_reducible refine (inRange_q _ _ _ true _ h2).mono ?_
  rintro e w1 ⟨rfl,rfl⟩
  go_wp2_with fail
  with_reducible refine (inRange_q _ _ _ true _ h3).mono ?_
  rintro e w1 ⟨rfl,rfl⟩
  go_wp2_with fail
  with_reducible refine (inRange_q _ _ _ true _ h4).mono ?_
  rintro e w1 ⟨rfl,rfl⟩
  go_wp2_with fail
  with_reducible refine (inRange_q _ _ _ false _ h5).mono ?_
  rintro e w1 ⟨rfl,rfl⟩
  go_wp2
  go_ret
  exact ⟨rfl,(by repeat (first | with_reducible exact Below.refl _ _ | with_reducible assumption | with_reducible refine balloc ?_ | (with_reducible refine bset ?_ ?_;rotate_left;((try dsimp only);omega)) | refine bkeep2 ?_ (by assumption) | with_reducible refine Below.drew ?_))⟩
 cases h6:rng p.hh (-300) 300
 ·have ht:false=t:=by rw [<- h];simp [plB,shB,reB,h6]
  subst ht
  go_enter Tryz.func111,Tryz.ntmps111
  go_wp2_with fail
  with_reducible refine (inRange_q _ _ _ true _ h1).mono ?_
  rintro e w1 ⟨rfl,rfl⟩
  go_wp2_with fail
  with_reducible refine (inRange_q _ _ _ true _ h2).mono ?_
  rintro e w1 ⟨rfl,rfl⟩
  go_wp2_with fail
  with_reducible refine (inRange_q _ _ _ true _ h3).mono ?_
  rintro e w1 ⟨rfl,rfl⟩
  go_wp2_with fail
  with_reducible refine (inRange_q _ _ _ true _ h4).mono ?_
  rintro e w1 ⟨rfl,rfl⟩
  go_wp2_with fail
  with_reducible refine (inRange_q _ _ _ true _ h5).mono ?_
  rintro e w1 ⟨rfl,rfl⟩
  go_wp2_with fail
  with_reducible refine (inRange_q _ _ _ false _ h6).mono ?_
  rintro e w1 ⟨rfl,rfl⟩
  go_wp2
  go_ret
  exact ⟨rfl,(by repeat (first | with_reducible exact Below.refl _ _ | with_reducible assumption | with_reducible refine balloc ?_ | (with_reducible refine bset ?_ ?_;rotate_left;((try dsimp only);omega)) | refine bkeep2 ?_ (by assumption) | with_reducible refine Below.drew ?_))⟩
 cases h7:rng p.qw 0 1000
 ·have ht:false=t:=by rw [<- h];simp [plB,shB,reB,h7]
  subst ht
  go_enter Tryz.func111,Tryz.ntmps111
  go_wp2_with fail
  with_reducible refine (inRange_q _ _ _ true _ h1).mono ?_
  rintro e w1 ⟨rfl,rfl⟩
  go_wp2_with fail
  with_reducible refine (inRange_q _ _ _ true _ h2).mono ?_
  rintro e w1 ⟨rfl,rfl⟩
  go_wp2_with fail
  with_reducible refine (inRange_q _ _ _ true _ h3).mono ?_
  rintro e w1 ⟨rfl,rfl⟩
  go_wp2_with fail
  with_reducible refine (inRange_q _ _ _ true _ h4).mono ?_
  rintro e w1 ⟨rfl,rfl⟩
  go_wp2_with fail
  with_reducible refine (inRange_q _ _ _ true _ h5).mono ?_
  rintro e w1 ⟨rfl,rfl⟩
  go_wp2_with fail
  with_reducible refine (inRange_q _ _ _ true _ h6).mono ?_
  rintro e w1 ⟨rfl,rfl⟩
  go_wp2_with fail
  with_reducible refine (inRange_q _ _ _ false _ h7).mono ?_
  rintro e w1 ⟨rfl,rfl⟩
  go_wp2
  go_ret
  exact ⟨rfl,(by repeat (first | with_reducible exact Below.refl _ _ | with_reducible assumption | with_reducible refine balloc ?_ | (with_reducible refine bset ?_ ?_;rotate_left;((try dsimp only);omega)) | refine bkeep2 ?_ (by assumption) | with_reducible refine Below.drew ?_))⟩
 cases h8:rng p.qh 0 1000
 ·have ht:false=t:=by rw [<- h];simp [plB,shB,reB,h8]
  subst ht
  go_enter Tryz.func111,Tryz.ntmps111
  go_wp2_with fail
  with_reducible refine (inRange_q _ _ _ true _ h1).mono ?_
  rintro e w1 ⟨rfl,rfl⟩
  go_wp2_with fail
  with_reducible refine (inRange_q _ _ _ true _ h2).mono ?_
  rintro e w1 ⟨rfl,rfl⟩
  go_wp2_with fail
  with_reducible refine (inRange_q _ _ _ true _ h3).mono ?_
  rintro e w1 ⟨rfl,rfl⟩
  go_wp2_with fail
  with_reducible refine (inRange_q _ _ _ true _ h4).mono ?_
  rintro e w1 ⟨rfl,rfl⟩
  go_wp2_with fail
  with_reducible refine (inRange_q _ _ _ true _ h5).mono ?_
  rintro e w1 ⟨rfl,rfl⟩
  go_wp2_with fail
  with_reducible refine (inRange_q _ _ _ true _ h6).mono ?_
  rintro e w1 ⟨rfl,rfl⟩
  go_wp2_with fail
  with_reducible refine (inRange_q _ _ _ true _ h7).mono ?_
  rintro e w1 ⟨rfl,rfl⟩
  go_wp2_with fail
  with_reducible refine (inRange_q _ _ _ false _ h8).mono ?_
  rintro e w1 ⟨rfl,rfl⟩
  go_wp2
  go_ret
  exact ⟨rfl,(by repeat (first | with_reducible exact Below.refl _ _ | with_reducible assumption | with_reducible refine balloc ?_ | (with_reducible refine bset ?_ ?_;rotate_left;((try dsimp only);omega)) | refine bkeep2 ?_ (by assumption) | with_reducible refine Below.drew ?_))⟩
 have h9:rng p.an 0 8=t:=by rw [<- h];simp [plB,shB,reB,h1,h2,h3,h4,h5,h6,h7,h8]
 go_enter Tryz.func111,Tryz.ntmps111
 go_wp2_with fail
 with_reducible refine (inRange_q _ _ _ true _ h1).mono ?_
 rintro e w1 ⟨rfl,rfl⟩
 go_wp2_with fail
 with_reducible refine (inRange_q _ _ _ true _ h2).mono ?_
 rintro e w1 ⟨rfl,rfl⟩
 go_wp2_with fail
 with_reducible refine (inRange_q _ _ _ true _ h3).mono ?_
 rintro e w1 ⟨rfl,rfl⟩
 go_wp2_with fail
 with_reducible refine (inRange_q _ _ _ true _ h4).mono ?_
 rintro e w1 ⟨rfl,rfl⟩
 go_wp2_with fail
 with_reducible refine (inRange_q _ _ _ true _ h5).mono ?_
 rintro e w1 ⟨rfl,rfl⟩
 go_wp2_with fail
 with_reducible refine (inRange_q _ _ _ true _ h6).mono ?_
 rintro e w1 ⟨rfl,rfl⟩
 go_wp2_with fail
 with_reducible refine (inRange_q _ _ _ true _ h7).mono ?_
 rintro e w1 ⟨rfl,rfl⟩
 go_wp2_with fail
 with_reducible refine (inRange_q _ _ _ true _ h8).mono ?_
 rintro e w1 ⟨rfl,rfl⟩
 go_wp2_with fail
 with_reducible refine (sanch_t _ t _ h9).mono ?_
 rintro e w1 ⟨rfl,rfl⟩
 go_wp2
 go_ret
 exact ⟨rfl,(by repeat (first | with_reducible exact Below.refl _ _ | with_reducible assumption | with_reducible refine balloc ?_ | (with_reducible refine bset ?_ ?_;rotate_left;((try dsimp only);omega)) | refine bkeep2 ?_ (by assumption) | with_reducible refine Below.drew ?_))⟩
theorem toPlace_v (p:Plc) (w:World):Calls Tryz.prog 120 #[.agg #[.int .i64 p.x,.int .i64 p.y,.int .i64 p.rx,.int .i64 p.ry,.int .i64 p.ww,.int .i64 p.hh,.int .i64 p.qw,.int .i64 p.qh,.int .i64 p.an]] w fun e w'=>e=.returned (.agg #[.int .i64 p.x,.int .i64 p.y,.int .i64 p.rx,.int .i64 p.ry,.int .i64 p.ww,.int .i64 p.hh,.int .i64 p.qw,.int .i64 p.qh,.int .i64 p.an])∧Below w.heap.size w w':=by
 go_enter Tryz.func120,Tryz.ntmps120
 go_wp2
 exact bodyPost_ret (v:=.agg #[.int .i64 p.x,.int .i64 p.y,.int .i64 p.rx,.int .i64 p.ry,.int .i64 p.ww,.int .i64 p.hh,.int .i64 p.qw,.int .i64 p.qh,.int .i64 p.an]) (by simp only [results,Tryz.results120];go_simp) rfl ⟨rfl,(by repeat (first | with_reducible exact Below.refl _ _ | with_reducible assumption | with_reducible refine balloc ?_ | (with_reducible refine bset ?_ ?_;rotate_left;((try dsimp only);omega)) | refine bkeep2 ?_ (by assumption) | with_reducible refine Below.drew ?_))⟩
theorem eqPlace_same (p:Plc) (w:World):Calls Tryz.prog 137 #[.agg #[.int .i64 p.x,.int .i64 p.y,.int .i64 p.rx,.int .i64 p.ry,.int .i64 p.ww,.int .i64 p.hh,.int .i64 p.qw,.int .i64 p.qh,.int .i64 p.an],.agg #[.int .i64 p.x,.int .i64 p.y,.int .i64 p.rx,.int .i64 p.ry,.int .i64 p.ww,.int .i64 p.hh,.int .i64 p.qw,.int .i64 p.qh,.int .i64 p.an]] w fun e w'=>e=.returned (.bool true)∧Below w.heap.size w w':=by
 go_enter Tryz.func137,Tryz.ntmps137
 go_wp2
 go_ret
 exact ⟨rfl,(by repeat (first | with_reducible exact Below.refl _ _ | with_reducible assumption | with_reducible refine balloc ?_ | (with_reducible refine bset ?_ ?_;rotate_left;((try dsimp only);omega)) | refine bkeep2 ?_ (by assumption) | with_reducible refine Below.drew ?_))⟩
end
section
open Go.RowKit
set_option maxHeartbeats 1000000
attribute [local go_sem] growUpon_value growUpon_skip growUpon_enter
theorem wp_genGG {P:Program} {c:Code} {Q:Exit→Act→World→Prop} {a:Act} {W:World} (F:World→Prop) (hF:F W) (h:∀ W0,F W0→c.wp P Q a W0):c.wp P Q a W:=h W hF
theorem bp_genG {P:Program} {f:Func} {R:Ending→World→Prop} {e:Exit} {a:Act} {W:World} (F:World→Prop) (hF:F W) (h:∀ W0,F W0→bodyPost P f R e a W0):bodyPost P f R e a W:=h W hF
def GB (lo:Nat) (w:World) (v:Value) (L1 L2:List Ln) (L3:List Ce):Prop :=
 ∃ g1 g2 g3:Nat,v=.agg #[.slice (some ⟨g1,0,none⟩) L1.length L1.length,.slice (some ⟨g2,0,none⟩) L2.length L2.length,.slice (some ⟨g3,0,none⟩) L3.length L3.length]∧lo≤g1∧g1<g2∧g2<g3∧LnB w g1 L1∧LnB w g2 L2∧CeB w g3 L3
theorem GB.any {lo:Nat} {w:World} {v:Value} {L1 L2:List Ln} {L3:List Ce} (h:GB lo w v L1 L2 L3):GB 0 w v L1 L2 L3:=by
 obtain ⟨g1,g2,g3,e,a,b,c,k1,k2,k3⟩:=h
 exact ⟨g1,g2,g3,e,by omega,b,c,k1,k2,k3⟩
theorem GB.keep {lo:Nat} {w w':World} {v:Value} {L1 L2:List Ln} {L3:List Ce} (h:GB lo w v L1 L2 L3) (hb:Below w.heap.size w w'):GB lo w' v L1 L2 L3:=by
 obtain ⟨g1,g2,g3,e,a,b,c,k1,k2,k3⟩:=h
 exact ⟨g1,g2,g3,e,a,b,c,k1.keep hb,k2.keep hb,k3.keep hb⟩
end
end Go.Proofs.YtenckjdiggaonaaGreat
