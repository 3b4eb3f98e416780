import Derived.Test.YtenckjdiggaonaaGreatQu04
set_option linter.unusedVariables false
set_option linter.unusedSimpArgs false
set_option maxRecDepth 100000
set_option maxHeartbeats 16000000
namespace Go.Proofs.YtenckjdiggaonaaGreat
open Go.RowKit
attribute [local go_sem] growUpon_value growUpon_skip growUpon_enter
section
structure CpR (lo:Nat) (w:World) (R S:List Nr):Prop where
 len:S.length=R.length
 each:∀ (i:Nat) (p q:Nr),R[i]?=some p→S[i]?=some q→CpN lo w p q
 apart:∀ (i j:Nat) (q r:Nr),i<j→S[i]?=some q→S[j]?=some r→∀ a b:Addr,(q.ca=some a ∨ q.ra=some a)→(r.ca=some b ∨ r.ra=some b)→a.block<b.block
theorem CpR.keep {lo:Nat} {w w':World} {R S:List Nr} (h:CpR lo w R S) (hb:Below w.heap.size w w'):CpR lo w' R S:=⟨h.len,fun i p q hp hq=>(h.each i p q hp hq).keep hb,h.apart⟩
theorem CpR.but {lo z:Nat} {w w':World} {R S:List Nr} (h:CpR lo w R S) (hg:w.grownBy w' (some z)) (hz:z<lo):CpR lo w' R S:=⟨h.len,fun i p q hp hq=>(h.each i p q hp hq).but hg hz,h.apart⟩
theorem CpR.nil (lo:Nat) (w:World):CpR lo w [] []:=⟨rfl,fun i p q hp _=>by simp at hp,fun i j q r _ hq _=>by simp at hq⟩
theorem CpN.blk {lo:Nat} {w:World} {p q:Nr} (h:CpN lo w p q) {a:Addr} (ha:q.ca=some a ∨ q.ra=some a):lo≤a.block∧a.block<w.heap.size:=by
 obtain ⟨g1,g2,rfl,h1,h2,h3,h4⟩:=h;have l3:=h3.lt;have l4:=h4.lt
 rcases ha with ha | ha
 ·have e:(⟨g1,0,none⟩:Addr)=a:=Option.some.inj ha;subst e;exact ⟨h1,l3⟩
 ·have e:(⟨g2,0,none⟩:Addr)=a:=Option.some.inj ha;subst e;exact ⟨Nat.le_trans h1 (Nat.le_of_lt h2),l4⟩
theorem CpN.lo' {lo lo':Nat} {w:World} {p q:Nr} (h:CpN lo' w p q) (hl:lo≤lo'):CpN lo w p q:=by
 obtain ⟨g1,g2,e,h1,h2,h3,h4⟩:=h;exact ⟨g1,g2,e,Nat.le_trans hl h1,h2,h3,h4⟩
theorem CpR.snoc {lo:Nat} {w w':World} {R S:List Nr} {k:Nat} {p q:Nr} (h:CpR lo w (R.take k) S) (hp:R[k]?=some p) (hb:Below w.heap.size w w') (hq:CpN w.heap.size w' p q) (hl:lo≤w.heap.size):CpR lo w' (R.take (k+1)) (S ++ [q]):=by
 have hk:k<R.length:=(List.getElem?_eq_some_iff.1 hp).1
 have hls:S.length=k:=by rw [h.len,List.length_take];omega
 refine ⟨by rw [List.length_append,hls,List.length_take];simp;omega,fun i p' q' h1 h2=>?_,fun i j q1 r1 hij h1 h2 a b ha hb'=>?_⟩
 ·rw [List.getElem?_take] at h1
  split at h1
  ·rename_i hi
   by_cases e:i=k
   ·subst e;rw [hp] at h1;rw [List.getElem?_append_right (by omega),hls] at h2
    simp at h1 h2
    subst h1 h2;exact hq.lo' hl
   ·rw [List.getElem?_append_left (by omega)] at h2;exact (h.each i p' q' (by rw [List.getElem?_take,if_pos (by omega)];exact h1) h2).keep hb
  ·cases h1
 ·have hj:=(List.getElem?_eq_some_iff.1 h2).1
  simp at hj
  by_cases e:j=k
  ·subst e;rw [List.getElem?_append_right (by omega),hls] at h2
   simp at h2
   subst h2;rw [List.getElem?_append_left (by omega)] at h1
   obtain ⟨p',hp'⟩:∃ p',(R.take j)[i]?=some p':=⟨_,List.getElem?_eq_getElem (by rw [<- h.len];omega)⟩
   have b1:=(h.each i p' q1 hp' h1).blk ha;have b2:=hq.blk hb';omega
  ·rw [List.getElem?_append_left (by omega)] at h2;rw [List.getElem?_append_left (by omega)] at h1;exact h.apart i j q1 r1 hij h1 h2 a b ha hb'
theorem CpR.rd {lo:Nat} {w:World} {R S:List Nr} (h:CpR lo w R S):RdR w S:=fun q hq=>by
 obtain ⟨i,hi,hq⟩:=List.getElem_of_mem hq
 have h2:S[i]?=some q:=by rw [List.getElem?_eq_getElem hi,hq]
 have hi':i<R.length:=by rw [<- h.len];exact hi
 exact (h.each i _ q (List.getElem?_eq_getElem hi') h2).rd
theorem CpR.map {lo:Nat} {w:World} {R S:List Nr} (h:CpR lo w R S):S.map Nr.n=R.map Nr.n:=by
 apply List.ext_getElem?;intro i;rw [List.getElem?_map,List.getElem?_map]
 cases hp:R[i]? with
 | none =>
  have:=List.getElem?_eq_none_iff.1 hp
  rw [List.getElem?_eq_none (by rw [h.len];exact this)]
 | some p =>
  have hi:=(List.getElem?_eq_some_iff.1 hp).1
  have hi':i<S.length:=by rw [h.len];exact hi
  have hs:S[i]?=some S[i]:=List.getElem?_eq_getElem hi';rw [hs];simp only [Option.map_some];rw [(h.each i p _ hp hs).n]
theorem toNodeS_any (A:Option Addr) (c:Nat) (R:List Nr) (w:World) (h:NrV w A R) (hr:RdR w R) (hL:R.length≤1048576) (hk:∀ p ∈ R,p.n.cs.length≤1048576∧p.n.rs.length≤1048576) :
  Calls Tryz.prog 45 #[.slice A R.length c] w fun e w'=>(∃ S,e=.returned (.slice (some ⟨w.heap.size,0,none⟩) R.length R.length)∧NrB w' w.heap.size S∧CpR (w.heap.size+1) w' R S)∧Below w.heap.size w w':=by
 obtain ⟨f,hf,hmk0⟩:=madeNr
 have hmk:∀ w:World,(Instr.makeSlice 28 (.int .i64 (R.length:Int)) (.int .i64 (R.length:Int))).run Tryz.prog w=.ok (.slice (some ⟨w.heap.size,0,none⟩) R.length R.length) (w.alloc (.cells (f R.length) 84)):=fun w=>hmk0 R.length w hL
 have HRD:=hD hr;have HKK:=hD hk;clear hr hk
 go_enter Tryz.func45,Tryz.ntmps45
 go_wp2_with fail
 have HWW:Hid (∃ cs:Array Value,(w.alloc (.cells (f R.length) 84)).heap[w.heap.size]?=some (.cells cs 84 (0,0))∧cs.size=R.length*34∧∀ i p,i<0→([]:List Nr)[i]?=some p→InS cs (i*34) (valsNr p)):=hD ⟨_,newS _ _,hf _,fun i p hi=>absurd hi (by omega)⟩;clear hmk hmk0 hf
 go_loopw [4] (fun i wr=>∃ (k:Nat) (S:List Nr),k≤R.length∧i=.int .i64 k∧(∃ cs:Array Value,wr.heap[w.heap.size]?=some (.cells cs 84 (0,0))∧cs.size=R.length*34∧∀ i p,i<k→S[i]?=some p→InS cs (i*34) (valsNr p))∧CpR (w.heap.size+1) wr (R.take k) S∧Below w.heap.size w wr∧w.heap.size+1≤wr.heap.size) (fun i _=>R.length - (intOf i).toNat)
 case atStart=>exact ⟨0,[],by omega,rfl,HWW.out,by simpa using CpR.nil _ _,balloc (Below.refl _ _),by simp⟩
 case round =>
  obtain ⟨k,S,hk,rfl,⟨cs,hh,hs,hc⟩,hcp,hB,hsz⟩:=hrel;clear HWW
  by_cases hlt:k<R.length
  ·have hd:decide ((k:Int)<(R.length:Int))=true:=by simpa using hlt
   have hget:R[k]?=some R[k]:=List.getElem?_eq_getElem hlt;obtain ⟨b,off,rfl,hb,hp⟩:=(h.keep hB).cells (by omega);have hL:=hp k _ hget;have hrd:=(HRD.out.keep hB) _ (List.mem_of_getElem? hget);have hkk:=HKK.out _ (List.mem_of_getElem? hget);generalize R[k]=p at *;have HLR:=hD hL;have HG:=hD hget;have HH:=hD hh;have HS:=hD hs;have HC:=hD hc;have HB:=hD hB;have HCP:=hD hcp;have HSZ:=hD hsz
   clear hget hh hs hc hB hp hL hcp hsz;obtain ⟨kk1,kk2⟩:=hkk
   go_wp2_with (refine ldL _ p b (off+k*34) rfl rfl rfl HLR.out ?_)
   with_reducible refine (toNode_v p _ hrd kk1 kk2).mono ?_
   rintro e w1 ⟨⟨q,rfl,hq⟩,hb1⟩;have hlg:w.heap.size<wr.heap.size:=ltS HH.out;have HK2:=hD (HCP.out.snoc HG.out hb1 hq HSZ.out);replace HH:=hD ((hb1.block _ hlg).trans HH.out);replace HB:=hD (bkeep2 HB.out hb1);have hs1:=hb1.size;have HS1:=hD hs1;clear hb1 hlg hrd hq HLR hs1
   have hsz:k*34+34≤cs.size:=by rw [HS.out];omega
   have E1:=hD (heap_setCells (valsNr q) (k*34) _ _ HH.out);have E2:=hD (below_setCells (Nat.le_refl _) (valsNr q) (k*34) _ HB.out)
   have hls:S.length=k:=by rw [HCP.out.len,List.length_take];omega
   have HLS:=hD hls;clear hls;go_simp
   go_step
   go_step
   go_step
   go_step
   refine stN (cs:=cs) (T:=84) (.tmp 21) (.tmp 20) q w.heap.size (k*34) rfl rfl rfl rfl HH.out hsz ?_;go_wp2
   go_roundw
   case rel =>
    refine ⟨k+1,S ++ [q],by omega,by go_num,⟨_,E1.out,(wrAt_size _ _ _).trans HS.out,fun i r hi hr=>?_⟩,HK2.out.but (grown_setCells _ _ _ (greflS _ _)) (by omega),E2.out,by rw [size_setCellsT];have:=HS1.out;have:=HSZ.out;omega⟩
    by_cases e:i=k
    ·subst e;rw [List.getElem?_append_right (by rw [HLS.out];omega),HLS.out] at hr
     simp at hr
     subst hr;exact InS.write (by rw [valsNr_len];omega)
    ·rw [List.getElem?_append_left (by rw [HLS.out];omega)] at hr;exact (HC.out i r (by omega) hr).keepS (.inl (by rw [valsNr_len];omega))
   case measure=>simp [intOf];omega
  ·have hd:decide ((k:Int)<(R.length:Int))=false:=decide_eq_false (by omega)
   obtain rfl:k=R.length:=by omega
   rw [List.take_length] at hcp;have HR:=hD (show NrB wr w.heap.size S from ⟨cs,hh,by rw [hcp.len];exact hs,fun i p hp=>hc i p (by rw [<- hcp.len];exact (List.getElem?_eq_some_iff.1 hp).1) hp⟩);have HCP:=hD hcp;have HB:=hD hB;clear hh hs hc hB hcp;go_wp2;go_ret;exact ⟨⟨S,rfl,HR.out,HCP.out⟩,HB.out⟩
def TB (lo:Nat) (w:World) (v:Value) (R S:List Nr):Prop:=∃ g:Nat,v=.agg #[.slice (some ⟨g,0,none⟩) R.length R.length]∧lo≤g∧NrB w g S∧CpR (g+1) w R S
theorem TB.keep {lo:Nat} {w w':World} {v:Value} {R S:List Nr} (h:TB lo w v R S) (hb:Below w.heap.size w w'):TB lo w' v R S:=by
 obtain ⟨g,e,h1,h2,h3⟩:=h;exact ⟨g,e,h1,h2.keep hb,h3.keep hb⟩
theorem toTree_v (A:Option Addr) (c:Nat) (R:List Nr) (w:World) (h:NrV w A R) (hr:RdR w R) (hL:R.length≤1048576) (hk:∀ p ∈ R,p.n.cs.length≤1048576∧p.n.rs.length≤1048576) :
  Calls Tryz.prog 14 #[.agg #[.slice A R.length c]] w fun e w'=>(∃ v S,e=.returned v∧TB w.heap.size w' v R S)∧Below w.heap.size w w':=by
 have HA:=hD (And.intro h (And.intro hr hk));clear h hr hk
 go_enter Tryz.func14,Tryz.ntmps14
 go_upto_region 2 with (fail)
 refine wp_genGG (fun W=>W.heap[w.heap.size]?=some (.cells #[.slice A R.length c] 24 (0,0))∧W.heap[w.heap.size+1]?=some (.cells #[.slice none 0 0] 30 (0,0))∧W.heap[w.heap.size+1+1]?=some (.cells #[.slice none 0 0] 30 (0,0))∧Below w.heap.size w W) ⟨(Below.heap_alloc _ _ w.heap.size (by simp;omega)).trans ((Below.heap_alloc _ _ w.heap.size (by simp)).trans (newS w _)),(Below.heap_alloc _ _ (w.heap.size+1) (by simp)).trans (newS1T w _ _),newS2T w _ _ _,balloc (balloc (balloc (Below.refl _ _)))⟩ (fun W0 h0=>?_)
 obtain ⟨hx,hy,hz,hb⟩:=h0;have HX:=hD hx;have HY:=hD hy;have HZ:=hD hz;have HB:=hD hb;clear hx hy hz hb;have d:=cellS HX.out 0;have lz:=ltS HZ.out
 go_wp2_with fail
 with_reducible refine (toNodeS_any A c R _ (HA.out.1.keep HB.out) (HA.out.2.1.keep HB.out) hL HA.out.2.2).mono ?_
 rintro e w1 ⟨⟨S,rfl,hk,hcp⟩,hb⟩;clear d;replace HX:=hbk hb HX;replace HY:=hbk hb HY;replace HZ:=hbk hb HZ;replace HB:=hD (bkeep2 HB.out hb);clear hb;have HK:=hD hk;have HCP:=hD hcp;clear hk hcp;have z:=cellS HZ.out 0;have zf:=frozenS HZ.out 0
 have ne:W0.heap.size ≠ w.heap.size+1+1:=by omega
 have p:=putS (i:=0) HZ.out (.slice (some ⟨W0.heap.size,0,none⟩) R.length R.length);simp only [List.setIfInBounds_toArray,List.set_cons_succ,List.set_cons_zero] at p;have HP:=hD p;have HNE:=hD ne;clear p ne
 go_upto_region 3 with (fail)
 refine wp_genGG (fun W=>W.heap[w.heap.size+1]?=some (.cells #[.slice none 0 0] 30 (0,0))∧W.heap[w.heap.size+1+1]?=some (.cells #[.slice (some ⟨W0.heap.size,0,none⟩) R.length R.length] 30 (0,0))∧Below w.heap.size w W∧NrB W W0.heap.size S∧CpR (W0.heap.size+1) W R S) ⟨(Below.heap_setCell _ _ _ (w.heap.size+1) (by simp)).trans HY.out,HP.out,HB.out.setCell (p:=⟨w.heap.size+1+1,0,none⟩) (by simp;omega) _,HK.out.but (gsetS (greflS _ (w.heap.size+1+1)) 0 _) HNE.out,HCP.out.but (gsetS (greflS _ (w.heap.size+1+1)) 0 _) (by omega)⟩ (fun W1 h0=>?_)
 clear HX HY HZ HB HP z zf HK HCP;obtain ⟨hy,hz,hb,hk,hcp⟩:=h0;have HY:=hD hy;have HZ:=hD hz;have HB:=hD hb;have HK:=hD hk;have HCP:=hD hcp;clear hy hz hb hk hcp;have z0:=cellS HZ.out 0;have y0:=cellS HY.out 0;have f0:=frozenS HY.out 0;have p:=putS (i:=0) HY.out (.slice (some ⟨W0.heap.size,0,none⟩) R.length R.length);simp only [List.setIfInBounds_toArray,List.set_cons_succ,List.set_cons_zero] at p
 have HP:=hD p;clear p;go_wp2
 refine bp_genG (fun W=>W.heap[w.heap.size+1]?=some (.cells #[.slice (some ⟨W0.heap.size,0,none⟩) R.length R.length] 30 (0,0))∧Below w.heap.size w W∧NrB W W0.heap.size S∧CpR (W0.heap.size+1) W R S) ⟨HP.out,HB.out.setCell (p:=⟨w.heap.size+1,0,none⟩) (by simp) _,HK.out.but (gsetS (greflS _ (w.heap.size+1)) 0 _) (by omega),HCP.out.but (gsetS (greflS _ (w.heap.size+1)) 0 _) (by omega)⟩ ?_
 clear HY HZ HB HP HK HCP z0 y0 f0;rintro W ⟨hp,hb,hk,hcp⟩;have q0:=cellS hp 0;exact bodyPost_ret (v:=.agg #[.slice (some ⟨W0.heap.size,0,none⟩) R.length R.length]) (by simp only [results,Tryz.results14];go_simp) rfl ⟨⟨_,S,rfl,W0.heap.size,rfl,by omega,hk,hcp⟩,hb⟩
def TA (lo:Nat) (w:World) (v:Value) (R:List Nr):Prop:=∃ S,TB lo w v R S
theorem TA.keep {lo:Nat} {w w':World} {v:Value} {R:List Nr} (h:TA lo w v R) (hb:Below w.heap.size w w'):TA lo w' v R:=let ⟨S,hs⟩:=h;⟨S,hs.keep hb⟩
theorem TA.any {lo:Nat} {w:World} {v:Value} {R:List Nr} (h:TA lo w v R):TA 0 w v R:=by
 obtain ⟨S,g,e,h1,h2,h3⟩:=h;exact ⟨S,g,e,Nat.zero_le _,h2,h3⟩
theorem TA.open {lo:Nat} {w:World} {v:Value} {R:List Nr} (h:TA lo w v R):∃ (g:Nat) (S:List Nr),v=.agg #[.slice (some ⟨g,0,none⟩) R.length R.length]∧lo≤g∧g<w.heap.size∧S.length=R.length∧NrV w (some ⟨g,0,none⟩) S∧RdR w S∧S.map Nr.n=R.map Nr.n∧NrB w g S∧CpR (g+1) w R S:=by
 obtain ⟨S,g,e,h1,h2,h3⟩:=h;exact ⟨g,S,e,h1,h2.lt,h3.len,h2.v,h3.rd,h3.map,h2,h3⟩
theorem toTree_a (A:Option Addr) (c:Nat) (R:List Nr) (w:World) (h:NrV w A R) (hr:RdR w R) (hL:R.length≤1048576) (hk:∀ p ∈ R,p.n.cs.length≤1048576∧p.n.rs.length≤1048576) :
  Calls Tryz.prog 14 #[.agg #[.slice A R.length c]] w fun e w'=>(∃ v,e=.returned v∧TA w.heap.size w' v R)∧Below w.heap.size w w' :=
 (toTree_v A c R w h hr hL hk).mono fun e w' ⟨⟨v,S,he,hs⟩,hb⟩=>⟨⟨v,he,S,hs⟩,hb⟩
theorem map_mem {R S:List Nr} (h:S.map Nr.n=R.map Nr.n) {B:Nat} (hk:∀ p ∈ R,p.n.cs.length≤B∧p.n.rs.length≤B):∀ p ∈ S,p.n.cs.length≤B∧p.n.rs.length≤B:=fun p hp=>by
 have h1:p.n ∈ R.map Nr.n:=by rw [<- h];exact List.mem_map_of_mem hp
 obtain ⟨q,hq,e⟩:=List.mem_map.1 h1;rw [<- e];exact hk q hq
theorem szL_mem:∀ {R:List Nr} {p:Nr},p ∈ R→p.n.cs.length≤szL R∧p.n.rs.length≤szL R
 | q :: t,p,h=>by
  rcases List.mem_cons.1 h with rfl | h
  ·simp only [szL];omega
  ·have:=szL_mem h;simp only [szL];omega
 | [],p,h=>by simp at h
end
section
def Pk.ok (p:Pk):Bool:=vpB p.w p.h p.s p.an p.px p.py
def vpsB (L:List Pk):Bool:=L.all Pk.ok && decide (L.length≤7)
def Pk.down (p:Pk):Bool:=decide (p.s=0 ∨ p.s=1)
def Pk.need (p:Pk) (d:Bool):Int:=if d then p.h+2*p.py else p.w+2*p.px
def Pk.big (p:Pk):Prop:=((0≤p.w∧p.w≤1000000000000)∧(0≤p.h∧p.h≤1000000000000)∧(0≤p.s∧p.s≤3)∧(0≤p.an∧p.an≤8)∧(0≤p.px∧p.px≤10)∧(0≤p.py∧p.py≤10))
theorem Pk.need_bdW {p:Pk} (h:p.big) (d:Bool):0≤p.need d∧p.need d≤1000000000020:=by
 unfold Pk.big at h;unfold Pk.need
 split <;> omega
end
section
def Cells9 (w:World) (b o:Nat) (p:Pk):Prop :=
 w.cell? ⟨b,o,none⟩=some (.int .i64 p.w)∧w.cell? ⟨b,o+1,none⟩=some (.int .i64 p.h)∧w.cell? ⟨b,o+2,none⟩=some (.int .i64 p.s)∧w.cell? ⟨b,o+3,none⟩=some (.bool p.fx)∧w.cell? ⟨b,o+4,none⟩=some (.bool p.fy) ∧
 w.cell? ⟨b,o+5,none⟩=some (.bool p.ex)∧w.cell? ⟨b,o+6,none⟩=some (.int .i64 p.an)∧w.cell? ⟨b,o+7,none⟩=some (.int .i64 p.px)∧w.cell? ⟨b,o+8,none⟩=some (.int .i64 p.py)
def PS (w:World) (b off:Nat) (L:List Pk):Prop:=∀ i p,L[i]?=some p→Cells9 w b (off+i*9) p
structure PV (w:World) (A:Option Addr) (L:List Pk):Prop where
 cells:0<L.length→∃ b off,A=some ⟨b,off,none⟩∧b<w.heap.size∧PS w b off L
theorem Cells9.keep {w w':World} {b o:Nat} {p:Pk} (h:Cells9 w b o p) (hb:w'.heap[b]?=w.heap[b]?):Cells9 w' b o p:=by
 have e:∀ i,w'.cell? ⟨b,i,none⟩=w.cell? ⟨b,i,none⟩:=fun i=>World.cell?_of_block (a:=⟨b,i,none⟩) hb
 unfold Cells9 at *
 simpa only [e] using h
theorem PV.keep {w w':World} {A:Option Addr} {L:List Pk} (h:PV w A L) (hb:Below w.heap.size w w'):PV w' A L :=
 ⟨fun h0=>let ⟨b,off,e,hl,hp⟩:=h.cells h0;⟨b,off,e,Nat.lt_of_lt_of_le hl hb.size,fun i p hi=>(hp i p hi).keep (hb.block b hl)⟩⟩
theorem svp_v (p:Pk) (b:Bool) (h:p.ok=b) (w:World):Calls Tryz.prog 110 #[.agg #[.int .i64 p.w,.int .i64 p.h,.int .i64 p.s,.bool p.fx,.bool p.fy,.bool p.ex,.int .i64 p.an,.int .i64 p.px,.int .i64 p.py]] w fun e w'=>e=.returned (.bool b)∧Below w.heap.size w w':=by
 rw [<- h];exact specValidPack_any _ _ _ _ _ _ _ _ _ _
theorem vp_v (p:Pk) (b:Bool) (h:p.ok=b) (w:World):Calls Tryz.prog 122 #[.agg #[.int .i64 p.w,.int .i64 p.h,.int .i64 p.s,.bool p.fx,.bool p.fy,.bool p.ex,.int .i64 p.an,.int .i64 p.px,.int .i64 p.py]] w fun e w'=>e=.returned (.bool b)∧Below w.heap.size w w':=by
 rw [<- h];exact validPack_any _ _ _ _ _ _ _ _ _ _
end
section

end
section
def writeAt (cs:Array Value) (o:Nat):List Value→Array Value
 | []=>cs
 | v :: r=>writeAt (cs.setIfInBounds o v) (o+1) r
theorem writeAt_size:∀ (vs:List Value) (cs:Array Value) (o:Nat),(writeAt cs o vs).size=cs.size
 | [],cs,o=>rfl
 | v :: r,cs,o=>by unfold writeAt;rw [writeAt_size r];simp
theorem writeAt_lo:∀ (vs:List Value) (cs:Array Value) (o i:Nat),i<o→(writeAt cs o vs)[i]?=cs[i]?
 | [],cs,o,i,_=>rfl
 | v :: r,cs,o,i,h=>by unfold writeAt;rw [writeAt_lo r _ _ _ (by omega),Array.getElem?_setIfInBounds_ne (by omega)]
theorem writeAt_hi:∀ (vs:List Value) (cs:Array Value) (o i:Nat),o+vs.length≤i→(writeAt cs o vs)[i]?=cs[i]?
 | [],cs,o,i,_=>rfl
 | v :: r,cs,o,i,h=>by
  simp only [List.length_cons] at h;unfold writeAt;rw [writeAt_hi r _ _ _ (by omega),Array.getElem?_setIfInBounds_ne (by omega)]
theorem writeAt_in:∀ (vs:List Value) (cs:Array Value) (o j:Nat),o+vs.length≤cs.size→j<vs.length→(writeAt cs o vs)[o+j]?=vs[j]?
 | [],cs,o,j,_,h=>by simp at h
 | v :: r,cs,o,0,h,_=>by
  simp only [List.length_cons] at h;unfold writeAt;rw [writeAt_lo r _ _ _ (by omega),Nat.add_zero,Array.getElem?_setIfInBounds_self_of_lt (by omega)]
  rfl
 | v :: r,cs,o,j+1,h,hj=>by
  simp only [List.length_cons] at h hj;unfold writeAt;rw [show o+(j+1)=o+1+j from by omega,writeAt_in r _ _ _ (by simp;omega) (by omega)]
  simp
def vals (p:Pk):List Value:=[.int .i64 p.w,.int .i64 p.h,.int .i64 p.s,.bool p.fx,.bool p.fy,.bool p.ex,.int .i64 p.an,.int .i64 p.px,.int .i64 p.py]
def In9 (cs:Array Value) (o:Nat) (p:Pk):Prop:=∀ j,j<9→cs[o+j]?=(vals p)[j]?
theorem In9.cells {w:World} {b:Nat} {cs:Array Value} {T:TypeId} {fz:Nat × Nat} {o:Nat} {p:Pk} (hh:w.heap[b]?=some (.cells cs T fz)) (h:In9 cs o p):Cells9 w b o p:=by
 have e:∀ j,j<9→w.cell? ⟨b,o+j,none⟩=(vals p)[j]?:=fun j hj=>(cellH hh _).trans (h j hj)
 exact ⟨e 0 (by omega),e 1 (by omega),e 2 (by omega),e 3 (by omega),e 4 (by omega),e 5 (by omega),e 6 (by omega),e 7 (by omega),e 8 (by omega)⟩
theorem In9.write {cs:Array Value} {o:Nat} (p:Pk) (h:o+9≤cs.size):In9 (writeAt cs o (vals p)) o p:=fun j hj=>writeAt_in _ _ _ _ h hj
theorem In9.keep {cs:Array Value} {o o':Nat} {p q:Pk} (h:In9 cs o' q) (hd:o'+9≤o ∨ o+9≤o'):In9 (writeAt cs o (vals p)) o' q:=fun j hj=>by
 rcases hd with hd | hd
 ·rw [writeAt_lo _ _ _ _ (by omega)];exact h j hj
 ·rw [writeAt_hi _ _ _ _ (by simp [vals];omega)];exact h j hj
theorem pput1 {w:World} {b i:Nat} {cs:Array Value} {T:TypeId} {fz:Nat × Nat} (h:w.heap[b]?=some (.cells cs T fz)) (u:Value):(w.setCell ⟨b,i,none⟩ u).heap[b]?=some (.cells (cs.setIfInBounds i u) T fz):=by
 simp [World.setCell,Array.getElem?_modify,h]
theorem there {w:World} {b:Nat} {cs:Array Value} {T:TypeId} {fz:Nat × Nat} (h:w.heap[b]?=some (.cells cs T fz)) {i:Nat} (hi:i<cs.size):∃ v,w.cell? ⟨b,i,none⟩=some v :=
 ⟨cs[i],(cellH h i).trans (by simp [hi])⟩
theorem frozenH {w:World} {b:Nat} {cs:Array Value} {T:TypeId} (h:w.heap[b]?=some (.cells cs T (0,0))) (i:Nat):w.frozen? ⟨b,i,none⟩=false:=by simp [World.frozen?,h]
end
section
def Blk9 (w:World) (g:Nat) (L:List Pk):Prop:=∃ cs:Array Value,w.heap[g]?=some (.cells cs 78 (0,0))∧cs.size=L.length*9∧∀ i p,L[i]?=some p→In9 cs (i*9) p
theorem Blk9.keep {w w':World} {g:Nat} {L:List Pk} (h:Blk9 w g L) (hb:Below w.heap.size w w'):Blk9 w' g L:=by
 obtain ⟨cs,hh,hs,hc⟩:=h;exact ⟨cs,(hb.block g (gE hh).1).trans hh,hs,hc⟩
theorem Blk9.lt {w:World} {g:Nat} {L:List Pk} (h:Blk9 w g L):g<w.heap.size:=by obtain ⟨cs,hh,_⟩:=h;exact (gE hh).1
end
section
theorem eqPack_same (p:Pk) (w:World):Calls Tryz.prog 135 #[.agg #[.int .i64 p.w,.int .i64 p.h,.int .i64 p.s,.bool p.fx,.bool p.fy,.bool p.ex,.int .i64 p.an,.int .i64 p.px,.int .i64 p.py],.agg #[.int .i64 p.w,.int .i64 p.h,.int .i64 p.s,.bool p.fx,.bool p.fy,.bool p.ex,.int .i64 p.an,.int .i64 p.px,.int .i64 p.py]] w fun e w'=>e=.returned (.bool true)∧Below w.heap.size w w':=by
 go_enter Tryz.func135,Tryz.ntmps135
 go_wp2;go_ret;exact ⟨rfl,balloc (balloc (Below.refl _ _))⟩
end
section
theorem eqNode_same (n:Nd) (ca:Option Addr) (cc:Nat) (ra:Option Addr) (rc:Nat) (da:Option Addr) (dc:Nat) (sa:Option Addr) (sc:Nat) (w:World) (h1:LnV w ca n.cs) (h2:LnV w ra n.rs) (k1:LnV w da n.cs) (k2:LnV w sa n.rs) (m1:n.cs.length≤1048576) (m2:n.rs.length≤1048576) :
  Calls Tryz.prog 90 #[.agg (valsNr ⟨n,ca,cc,ra,rc⟩).toArray,.agg (valsNr ⟨n,da,dc,sa,sc⟩).toArray] w fun e w'=>e=.returned (.bool true)∧Below w.heap.size w w':=by
 have hB0:Below w.heap.size w ((w.alloc (.cells (valsNr ⟨n,ca,cc,ra,rc⟩).toArray 84 (0,0))).alloc (.cells (valsNr ⟨n,da,dc,sa,sc⟩).toArray 84 (0,0))):=balloc (balloc (Below.refl _ _));have HX:=hD ((Below.heap_alloc _ (.cells (valsNr ⟨n,da,dc,sa,sc⟩).toArray 84 (0,0)) w.heap.size (by simp)).trans (newS w (.cells (valsNr ⟨n,ca,cc,ra,rc⟩).toArray 84 (0,0))))
 have HY:=hD (newS1T w (.cells (valsNr ⟨n,ca,cc,ra,rc⟩).toArray 84 (0,0)) (.cells (valsNr ⟨n,da,dc,sa,sc⟩).toArray 84 (0,0)));have HV1:=hD (h1.keep hB0);have HV2:=hD (h2.keep hB0);have HK1:=hD (k1.keep hB0);have HK2:=hD (k2.keep hB0);have HB:=hD hB0;clear hB0 h1 h2 k1 k2
 have x0:((w.alloc (.cells (valsNr ⟨n,ca,cc,ra,rc⟩).toArray 84 (0,0))).alloc (.cells (valsNr ⟨n,da,dc,sa,sc⟩).toArray 84 (0,0))).cell? ⟨w.heap.size,0,none⟩=some (.int .i64 n.pa):=cellS HX.out 0;have y0:((w.alloc (.cells (valsNr ⟨n,ca,cc,ra,rc⟩).toArray 84 (0,0))).alloc (.cells (valsNr ⟨n,da,dc,sa,sc⟩).toArray 84 (0,0))).cell? ⟨w.heap.size+1,0,none⟩=some (.int .i64 n.pa):=cellS HY.out 0
 have x1:((w.alloc (.cells (valsNr ⟨n,ca,cc,ra,rc⟩).toArray 84 (0,0))).alloc (.cells (valsNr ⟨n,da,dc,sa,sc⟩).toArray 84 (0,0))).cell? ⟨w.heap.size,1,none⟩=some (.int .i64 n.ww):=cellS HX.out 1;have y1:((w.alloc (.cells (valsNr ⟨n,ca,cc,ra,rc⟩).toArray 84 (0,0))).alloc (.cells (valsNr ⟨n,da,dc,sa,sc⟩).toArray 84 (0,0))).cell? ⟨w.heap.size+1,1,none⟩=some (.int .i64 n.ww):=cellS HY.out 1
 have x2:((w.alloc (.cells (valsNr ⟨n,ca,cc,ra,rc⟩).toArray 84 (0,0))).alloc (.cells (valsNr ⟨n,da,dc,sa,sc⟩).toArray 84 (0,0))).cell? ⟨w.heap.size,2,none⟩=some (.int .i64 n.hh):=cellS HX.out 2;have y2:((w.alloc (.cells (valsNr ⟨n,ca,cc,ra,rc⟩).toArray 84 (0,0))).alloc (.cells (valsNr ⟨n,da,dc,sa,sc⟩).toArray 84 (0,0))).cell? ⟨w.heap.size+1,2,none⟩=some (.int .i64 n.hh):=cellS HY.out 2
 have x3:((w.alloc (.cells (valsNr ⟨n,ca,cc,ra,rc⟩).toArray 84 (0,0))).alloc (.cells (valsNr ⟨n,da,dc,sa,sc⟩).toArray 84 (0,0))).cell? ⟨w.heap.size,3,none⟩=some (.bool n.ke):=cellS HX.out 3;have y3:((w.alloc (.cells (valsNr ⟨n,ca,cc,ra,rc⟩).toArray 84 (0,0))).alloc (.cells (valsNr ⟨n,da,dc,sa,sc⟩).toArray 84 (0,0))).cell? ⟨w.heap.size+1,3,none⟩=some (.bool n.ke):=cellS HY.out 3
 have x4:((w.alloc (.cells (valsNr ⟨n,ca,cc,ra,rc⟩).toArray 84 (0,0))).alloc (.cells (valsNr ⟨n,da,dc,sa,sc⟩).toArray 84 (0,0))).cell? ⟨w.heap.size,4,none⟩=some (.int .i64 n.ki):=cellS HX.out 4;have y4:((w.alloc (.cells (valsNr ⟨n,ca,cc,ra,rc⟩).toArray 84 (0,0))).alloc (.cells (valsNr ⟨n,da,dc,sa,sc⟩).toArray 84 (0,0))).cell? ⟨w.heap.size+1,4,none⟩=some (.int .i64 n.ki):=cellS HY.out 4
 have x5:((w.alloc (.cells (valsNr ⟨n,ca,cc,ra,rc⟩).toArray 84 (0,0))).alloc (.cells (valsNr ⟨n,da,dc,sa,sc⟩).toArray 84 (0,0))).cell? ⟨w.heap.size,5,none⟩=some (.slice ca n.cs.length cc):=cellS HX.out 5
 have y5:((w.alloc (.cells (valsNr ⟨n,ca,cc,ra,rc⟩).toArray 84 (0,0))).alloc (.cells (valsNr ⟨n,da,dc,sa,sc⟩).toArray 84 (0,0))).cell? ⟨w.heap.size+1,5,none⟩=some (.slice da n.cs.length dc):=cellS HY.out 5
 go_enter Tryz.func90,Tryz.ntmps90
 go_wp2_with fail
 with_reducible refine (eqLnS_same ca da cc dc n.cs _ HV1.out HK1.out m1).mono ?_
 rintro e w1 ⟨rfl,hb⟩;clear x0 y0 x1 y1 x2 y2 x3 y3 x4 y4 x5 y5;replace HX:=hbk hb HX;replace HY:=hbk hb HY;replace HV2:=hD (HV2.out.keep hb);replace HK2:=hD (HK2.out.keep hb);replace HB:=hD (bkeep2 HB.out hb);clear hb;have x6:w1.cell? ⟨w.heap.size,6,none⟩=some (.slice ra n.rs.length rc):=cellS HX.out 6;have y6:w1.cell? ⟨w.heap.size+1,6,none⟩=some (.slice sa n.rs.length sc):=cellS HY.out 6
 go_wp2_with fail
 with_reducible refine (eqLnS_same ra sa rc sc n.rs _ HV2.out HK2.out m2).mono ?_
 rintro e w2 ⟨rfl,hb⟩;clear x6 y6;replace HX:=hbk hb HX;replace HY:=hbk hb HY;replace HB:=hD (bkeep2 HB.out hb);clear hb;have hx:=node_pk (nodeAt HX.out);have hy:=node_pk (nodeAt HY.out);simp only [Nat.zero_add] at hx hy;have HRX:=hD hx;have HRY:=hD hy;clear hx hy
 go_wp2_with (first | (refine wpList_load_mid rfl 78 _ rfl w.heap.size 7 rfl [.int .i64 n.pk.w,.int .i64 n.pk.h,.int .i64 n.pk.s,.bool n.pk.fx,.bool n.pk.fy,.bool n.pk.ex,.int .i64 n.pk.an,.int .i64 n.pk.px,.int .i64 n.pk.py] _ HRX.out Tryz.underlying78 rfl (by kernel_rfl) ?_) | (refine wpList_load_mid rfl 78 _ rfl (w.heap.size+1) 7 rfl [.int .i64 n.pk.w,.int .i64 n.pk.h,.int .i64 n.pk.s,.bool n.pk.fx,.bool n.pk.fy,.bool n.pk.ex,.int .i64 n.pk.an,.int .i64 n.pk.px,.int .i64 n.pk.py] _ HRY.out Tryz.underlying78 rfl (by kernel_rfl) ?_))
 with_reducible refine (eqPack_same n.pk _).mono ?_
 rintro e w3 ⟨rfl,hb⟩;clear HRX HRY;replace HX:=hbk hb HX;replace HY:=hbk hb HY;replace HB:=hD (bkeep2 HB.out hb);clear hb;have hx:=node_ce (nodeAt HX.out);have hy:=node_ce (nodeAt HY.out);simp only [Nat.zero_add] at hx hy;have HRX:=hD hx;have HRY:=hD hy;clear hx hy
 go_wp2_with (first | (refine wpList_load_mid rfl 80 _ rfl w.heap.size 16 rfl [.int .i64 n.ce.co,.int .i64 n.ce.ro,.int .i64 n.ce.mc,.int .i64 n.ce.mr,.int .i64 n.ce.cw,.int .i64 n.ce.ch,.int .i64 n.ce.sk,.int .i64 n.ce.px,.int .i64 n.ce.py] _ HRX.out Tryz.underlying80 rfl (by kernel_rfl) ?_) | (refine wpList_load_mid rfl 80 _ rfl (w.heap.size+1) 16 rfl [.int .i64 n.ce.co,.int .i64 n.ce.ro,.int .i64 n.ce.mc,.int .i64 n.ce.mr,.int .i64 n.ce.cw,.int .i64 n.ce.ch,.int .i64 n.ce.sk,.int .i64 n.ce.px,.int .i64 n.ce.py] _ HRY.out Tryz.underlying80 rfl (by kernel_rfl) ?_))
 with_reducible refine (eqCe_same n.ce _).mono ?_
 rintro e w4 ⟨rfl,hb⟩;clear HRX HRY;replace HX:=hbk hb HX;replace HY:=hbk hb HY;replace HB:=hD (bkeep2 HB.out hb);clear hb;have hx:=node_pl (nodeAt HX.out);have hy:=node_pl (nodeAt HY.out);simp only [Nat.zero_add] at hx hy;have HRX:=hD hx;have HRY:=hD hy;clear hx hy
 go_wp2_with (first | (refine wpList_load_mid rfl 82 _ rfl w.heap.size 25 rfl [.int .i64 n.pl.x,.int .i64 n.pl.y,.int .i64 n.pl.rx,.int .i64 n.pl.ry,.int .i64 n.pl.ww,.int .i64 n.pl.hh,.int .i64 n.pl.qw,.int .i64 n.pl.qh,.int .i64 n.pl.an] _ HRX.out Tryz.underlying82 rfl (by kernel_rfl) ?_) | (refine wpList_load_mid rfl 82 _ rfl (w.heap.size+1) 25 rfl [.int .i64 n.pl.x,.int .i64 n.pl.y,.int .i64 n.pl.rx,.int .i64 n.pl.ry,.int .i64 n.pl.ww,.int .i64 n.pl.hh,.int .i64 n.pl.qw,.int .i64 n.pl.qh,.int .i64 n.pl.an] _ HRY.out Tryz.underlying82 rfl (by kernel_rfl) ?_))
 with_reducible refine (eqPlace_same n.pl _).mono ?_
 rintro e w5 ⟨rfl,hb⟩;clear HRX HRY;replace HX:=hbk hb HX;replace HY:=hbk hb HY;replace HB:=hD (bkeep2 HB.out hb);clear hb;go_wp2;go_ret;exact ⟨rfl,HB.out⟩
theorem eqN_w (p q:Nr) (w:World) (hn:q.n=p.n) (hp:RdN w p) (hq:RdN w q) (m1:p.n.cs.length≤1048576) (m2:p.n.rs.length≤1048576) :
  Calls Tryz.prog 90 #[.agg (valsNr p).toArray,.agg (valsNr q).toArray] w fun e w'=>e=.returned (.bool true)∧Below w.heap.size w w':=by
 obtain ⟨n,ca,cc,ra,rc⟩:=p;obtain ⟨n',da,dc,sa,sc⟩:=q;obtain rfl:n'=n:=hn;exact eqNode_same n' ca cc ra rc da dc sa sc w hp.c hp.r hq.c hq.r m1 m2
theorem eqNodeS_same (A B:Option Addr) (c c':Nat) (R S:List Nr) (w:World) (hn:S.map Nr.n=R.map Nr.n) (h:NrV w A R) (h':NrV w B S) (hr:RdR w R) (hs:RdR w S) (hL:R.length≤1048576) (hm:∀ p ∈ R,p.n.cs.length≤1048576∧p.n.rs.length≤1048576) (k:Nat) (hk:k=R.length) :
  Calls Tryz.prog 49 #[.slice A k c,.slice B k c'] w fun e w'=>e=.returned (.bool true)∧Below w.heap.size w w':=by
 subst hk
 have hls:S.length=R.length:=by have:=congrArg List.length hn;simpa using this
 have HN:=hD hn;have HR:=hD hr;have HS:=hD hs;have HM:=hD hm;have HLS:=hD hls;clear hn hr hs hm hls
 go_enter Tryz.func49,Tryz.ntmps49
 go_wp2_with fail
 go_loopw [5] (fun i wr=>∃ k:Nat,k≤R.length∧i=.int .i64 k∧Below w.heap.size w wr) (fun i _=>R.length - (intOf i).toNat)
 case atStart=>exact ⟨0,by omega,rfl,Below.refl _ _⟩
 case round =>
  obtain ⟨k,hk,rfl,hB⟩:=hrel
  by_cases hlt:k<R.length
  ·have hd:decide ((k:Int)<(R.length:Int))=true:=by simpa using hlt
   have hlt':k<S.length:=by rw [HLS.out];exact hlt
   obtain ⟨b,off,rfl,hb,hp⟩:=(h.keep hB).cells (by omega);obtain ⟨b',off',rfl,hb',hp'⟩:=(h'.keep hB).cells (by omega);have hg1:R[k]?=some R[k]:=List.getElem?_eq_getElem hlt;have hg2:S[k]?=some S[k]:=List.getElem?_eq_getElem hlt';have hr1:=hp k _ hg1;have hr2:=hp' k _ hg2
   have hnn:(S[k]).n=(R[k]).n:=by
    have:=congrArg (fun l=>l[k]?) HN.out
    simpa [List.getElem?_map,hg1,hg2] using this
   have hrd1:=(HR.out.keep hB) _ (List.mem_of_getElem? hg1);have hrd2:=(HS.out.keep hB) _ (List.mem_of_getElem? hg2);have hmm:=HM.out _ (List.mem_of_getElem? hg1);generalize R[k]=p at *;generalize S[k]=q at *;have HR1:=hD hr1;have HR2:=hD hr2;have HNN:=hD hnn;have HBB:=hD hB;have HD1:=hD hrd1;have HD2:=hD hrd2;obtain ⟨mm1,mm2⟩:=hmm;clear hr1 hr2 hnn hB hg1 hg2 hp hp' hrd1 hrd2 hlt'
   go_wp2_with fail
   refine wp_region_grow 10 0 (·<10) (by kernel_rfl) (by kernel_rfl) rfl ?_
   iterate 10 (refine wpG_step (fun K hK=>?_);first | (refine grow_ldN _ p b (off+k*34) rfl rfl rfl hb (rangeB HR1.out rfl) ?_;refine hK _ ?_;clear hK K) | (refine grow_ldN _ q b' (off'+k*34) rfl rfl rfl hb' (rangeB HR2.out rfl) ?_;refine hK _ ?_;clear hK K) | (refine grow_skip rfl ?_;go_simp;refine hK _ ?_;clear hK K) | (apply Exists.intro;refine ⟨.inl ⟨rfl,fun w' hw'=>?_⟩,?_⟩;(focus ((obtain ⟨hc,hf⟩:=bcell hw'.out);(have hcS:=bcellS hw'.out);go_simp <;> first | rfl | (go_at_call 90;exact eqN_w p q _ HNN.out (HD1.out.keep (bdrewn hw'.out)) (HD2.out.keep (bdrewn hw'.out)) mm1 mm2)));(go_simp;refine hK _ ?_;clear hK K)))
   refine wpG_nil ?_;refine wpK_tail (by kernel_rfl) (fun w1 hg1=>?_);have hb1:=bdrewn hg1.out;refine wpAny_end (by kernel_rfl) ?_;refine NoPan.thn ?_;clear hg1;replace HBB:=hD (HBB.out.trans (hb1.mono HBB.out.size));clear hb1;go_wp2
   go_roundw
   case rel=>exact ⟨k+1,by omega,by go_num,HBB.out⟩
   case measure=>simp [intOf];omega
  ·have hd:decide ((k:Int)<(R.length:Int))=false:=decide_eq_false (by omega);have HBB:=hD hB;clear hB;go_wp2;go_ret;exact ⟨rfl,HBB.out⟩
theorem eqTree_same (A B:Option Addr) (c c':Nat) (R S:List Nr) (w:World) (hn:S.map Nr.n=R.map Nr.n) (h:NrV w A R) (h':NrV w B S) (hr:RdR w R) (hs:RdR w S) (hL:R.length≤1048576) (hm:∀ p ∈ R,p.n.cs.length≤1048576∧p.n.rs.length≤1048576) (k:Nat) (hk:k=R.length) :
  Calls Tryz.prog 17 #[.agg #[.slice A k c],.agg #[.slice B k c']] w fun e w'=>e=.returned (.bool true)∧Below w.heap.size w w':=by
 have hB0:Below w.heap.size w ((w.alloc (.cells #[.slice A k c] 30 (0,0))).alloc (.cells #[.slice B k c'] 30 (0,0))):=balloc (balloc (Below.refl _ _));have hx:=(Below.heap_alloc _ (.cells #[.slice B k c'] 30 (0,0)) w.heap.size (by simp)).trans (newS w (.cells #[.slice A k c] 30 (0,0)));have hy:=newS1T w (.cells #[.slice A k c] 30 (0,0)) (.cells #[.slice B k c'] 30 (0,0));have x0:=cellS hx 0
 have y0:=cellS hy 0;have HA:=hD (And.intro (h.keep hB0) (And.intro (h'.keep hB0) (And.intro (hr.keep hB0) (hs.keep hB0))));have HN:=hD (And.intro hn (And.intro hm hk));have HB:=hD hB0;clear hB0 hx hy hn h h' hr hs hm hk
 go_enter Tryz.func17,Tryz.ntmps17
 go_wp2_with fail
 with_reducible refine (eqNodeS_same A B c c' R S _ HN.out.1 HA.out.1 HA.out.2.1 HA.out.2.2.1 HA.out.2.2.2 hL HN.out.2.1 k HN.out.2.2).mono ?_
 rintro e w1 ⟨rfl,hb⟩;clear x0 y0;replace HB:=hD (bkeep2 HB.out hb);clear hb;go_wp2;go_ret;exact ⟨rfl,HB.out⟩
end
section
def mkB (z:Int):Bool:=z % 3 == 0
def mkN (z:Int) (p:Nr):Nr :=
 let y:=z+5+2*p.n.cs.length+2*p.n.rs.length
 ⟨⟨z,z+1,z+2,mkB (z+3),z+4,p.n.cs,p.n.rs,⟨y,y+1,y+2,mkB (y+3),mkB (y+4),mkB (y+5),y+6,y+7,y+8⟩,⟨y+9,y+10,y+11,y+12,y+13,y+14,y+15,y+16,y+17⟩,⟨y+18,y+19,y+20,y+21,y+22,y+23,y+24,y+25,y+26⟩⟩,p.ca,p.cc,p.ra,p.rc⟩
def mkW (p:Nr):Int:=32+2*p.n.cs.length+2*p.n.rs.length
def mkS:List Nr→Int
 | []=>0
 | p :: t=>mkW p+mkS t
theorem mkS_nn:∀ R,0≤mkS R
 | []=>Int.le_refl _
 | p :: t=>by have:=mkS_nn t;simp only [mkS,mkW];omega
theorem mkS_take:∀ {R:List Nr} {k:Nat} {p:Nr},R[k]?=some p→mkS (R.take (k+1))=mkS (R.take k)+mkW p
 | q :: t,0,p,h=>by simp at h;subst h;simp [mkS]
 | q :: t,k+1,p,h=>by
  simp only [List.getElem?_cons_succ] at h;simp only [List.take_succ_cons,mkS,mkS_take h];omega
 | [],k,p,h=>by simp at h
theorem mkS_le:∀ (R:List Nr) (k:Nat),mkS (R.take k)≤mkS R
 | [],k=>by simp [mkS]
 | q :: t,0=>by have:=mkS_nn (q :: t);simpa [mkS] using this
 | q :: t,k+1=>by have:=mkS_le t k;simp only [List.take_succ_cons,mkS];omega
structure Wi (lo hi:Nat) (w w':World):Prop where
 os:w'.os=w.os
 tape:w'.tape=w.tape
 output:w'.output=w.output
 size:w.heap.size≤w'.heap.size
 block:∀ k,k<w.heap.size→¬ (lo≤k∧k<hi)→w'.heap[k]?=w.heap[k]?
theorem Wi.refl (lo hi:Nat) (w:World):Wi lo hi w w:=⟨rfl,rfl,rfl,Nat.le_refl _,fun _ _ _=>rfl⟩
theorem Wi.grown {lo hi g:Nat} {a w w':World} (h:Wi lo hi a w) (hg:w.grownBy w' (some g)) (hb:(lo≤g∧g<hi) ∨ a.heap.size≤g):Wi lo hi a w' :=
 ⟨hg.os.trans h.os,hg.tape.trans h.tape,hg.output.trans h.output,Nat.le_trans h.size hg.size,fun k hk hn=>by
  have hne:k ≠ g:=by rintro rfl;rcases hb with hb | hb <;> omega
  exact (hg.block k (Nat.lt_of_lt_of_le hk h.size) (fun e=>hne (Option.some.inj e))).trans (h.block k hk hn)⟩
theorem Wi.set {lo hi g o:Nat} {a w:World} (h:Wi lo hi a w) (hb:lo≤g∧g<hi) (v:Value):Wi lo hi a (w.setCell ⟨g,o,none⟩ v):=h.grown (gsetS (greflS w g) o v) (.inl hb)
theorem Wi.below {lo hi:Nat} {a w w':World} (h:Wi lo hi a w) (hb:Below w.heap.size w w'):Wi lo hi a w' :=
 ⟨hb.os.trans h.os,hb.tape.trans h.tape,hb.output.trans h.output,Nat.le_trans h.size hb.size,fun k hk hn=>(hb.block k (Nat.lt_of_lt_of_le hk h.size)).trans (h.block k hk hn)⟩
theorem Wi.toBelow {lo hi:Nat} {a w:World} (h:Wi lo hi a w) {B:Nat} (hB:B≤lo) (hs:B≤a.heap.size):Below B a w :=
 ⟨h.os,h.tape,h.output,h.size,fun k hk=>h.block k (by omega) (by omega)⟩
def MidN (w:World) (g n k:Nat) (cs0:Array Value) (l:List Value) (s5 s6:Value):Prop :=
 ∃ cs:Array Value,w.heap[g]?=some (.cells cs 84 (0,0))∧cs.size=n*34∧(∀ i,i<k*34 ∨ (k+1)*34≤i→cs[i]?=cs0[i]?)∧InS cs (k*34) l∧cs[k*34+5]?=some s5∧cs[k*34+6]?=some s6
theorem MidN.put {w:World} {g n k:Nat} {cs0:Array Value} {l:List Value} {s5 s6:Value} (h:MidN w g n k cs0 l s5 s6) (hk:k<n) (j:Nat) (hj:j=l.length) (hj34:j<34) (h5:j ≠ 5) (h6:j ≠ 6) (v:Value):MidN (w.setCell ⟨g,k*34+j,none⟩ v) g n k cs0 (l ++ [v]) s5 s6:=by
 subst hj;obtain ⟨cs,hh,hs,ho,hl,e5,e6⟩:=h
 have hsz:k*34+l.length<cs.size:=by omega
 refine ⟨_,putS hh v,by simpa using hs,fun i hi=>?_,fun j u hu=>?_,?_,?_⟩
 ·rw [Array.getElem?_setIfInBounds_ne (by omega)];exact ho i hi
 ·by_cases hj:j<l.length
  ·rw [List.getElem?_append_left hj] at hu;rw [Array.getElem?_setIfInBounds_ne (by omega)];exact hl j u hu
  ·rw [List.getElem?_append_right (by omega)] at hu;have hj1:=(List.getElem?_eq_some_iff.1 hu).1
   simp at hj1
   obtain rfl:j=l.length:=by omega
   simp at hu
   subst hu;rw [Array.getElem?_setIfInBounds_self_of_lt hsz]
 ·rw [Array.getElem?_setIfInBounds_ne (by omega)];exact e5
 ·rw [Array.getElem?_setIfInBounds_ne (by omega)];exact e6
theorem MidN.two {w:World} {g n k:Nat} {cs0:Array Value} {l:List Value} {s5 s6:Value} (h:MidN w g n k cs0 l s5 s6) (hl:l.length=5):MidN w g n k cs0 (l ++ [s5,s6]) s5 s6:=by
 obtain ⟨cs,hh,hs,ho,hi,e5,e6⟩:=h;refine ⟨cs,hh,hs,ho,fun j u hu=>?_,e5,e6⟩
 by_cases hj:j<l.length
 ·rw [List.getElem?_append_left hj] at hu;exact hi j u hu
 ·rw [List.getElem?_append_right (by omega),hl] at hu;have hj1:=(List.getElem?_eq_some_iff.1 hu).1
  simp at hj1
  have hj2:j=5 ∨ j=6:=by omega
  rcases hj2 with rfl | rfl
  ·simp at hu;subst hu;exact e5
  ·simp at hu;subst hu;exact e6
theorem MidN.keep {w w':World} {g n k:Nat} {cs0:Array Value} {l:List Value} {s5 s6:Value} (h:MidN w g n k cs0 l s5 s6) (hb:w'.heap[g]?=w.heap[g]?):MidN w' g n k cs0 l s5 s6:=by
 obtain ⟨cs,hh,r⟩:=h;exact ⟨cs,hb.trans hh,r⟩
theorem MidN.cell {w:World} {g n k:Nat} {cs0:Array Value} {l:List Value} {s5 s6:Value} (h:MidN w g n k cs0 l s5 s6) (hk:k<n) {j:Nat} (hj:j<34):∃ v,w.cell? ⟨g,k*34+j,none⟩=some v:=by
 obtain ⟨cs,hh,hs,_⟩:=h;exact thereS hh (by omega)
theorem MidN.cell0 {w:World} {g n k:Nat} {cs0:Array Value} {l:List Value} {s5 s6:Value} (h:MidN w g n k cs0 l s5 s6) (hk:k<n):∃ v,w.cell? ⟨g,k*34,none⟩=some v:=h.cell hk (j:=0) (by omega)
theorem MidN.frz {w:World} {g n k:Nat} {cs0:Array Value} {l:List Value} {s5 s6:Value} (h:MidN w g n k cs0 l s5 s6) (i:Nat):w.frozen? ⟨g,i,none⟩=false:=by
 obtain ⟨cs,hh,_⟩:=h;exact frozenS hh i
theorem MidN.c5 {w:World} {g n k:Nat} {cs0:Array Value} {l:List Value} {s5 s6:Value} (h:MidN w g n k cs0 l s5 s6):w.cell? ⟨g,k*34+5,none⟩=some s5∧w.cell? ⟨g,k*34+6,none⟩=some s6:=by
 obtain ⟨cs,hh,_,_,_,e5,e6⟩:=h;exact ⟨(cellS hh _).trans e5,(cellS hh _).trans e6⟩
theorem MidN.lt {w:World} {g n k:Nat} {cs0:Array Value} {l:List Value} {s5 s6:Value} (h:MidN w g n k cs0 l s5 s6):g<w.heap.size:=by
 obtain ⟨cs,hh,_⟩:=h;exact ltS hh
end
section
theorem calls_abs {P:Program} {f:FuncId} {fn:Func} {c:Code} {args:Array Value} {w:World} {R:Ending→World→Prop} (hf:P.funcs[f]?=some fn) (hb:fn.body=some c) (N:Nat) (hN:fn.ntmps=N) (hle:args.size≤N)
  (h:∀ tm:Array Value,tm.size=N→(∀ i v,args[i]?=some v→tm.getD i undef=v)→c.wp P (bodyPost P fn R) ⟨tm,[]⟩ w):Calls P f args w R:=by
 refine calls_of_wp hf hb (h _ ?_ ?_)
 ·simp [hN];omega
 ·intro i v hi;have hlt:=(gE hi).1;rw [Array.getD_eq_getD_getElem?,Array.getElem?_append_left hlt,hi]
  rfl
theorem get_of {tm:Array Value} {i:Nat} {v d:Value} (h:i<tm.size) (e:tm.getD i d=v):tm[i]?=some v:=by
 rw [Array.getD_eq_getD_getElem?,Array.getElem?_eq_getElem h] at e;rw [Array.getElem?_eq_getElem h];simpa using e
theorem wp_seq_h {P:Program} {Q:Exit→Act→World→Prop} {a:Act} {w:World} {x y:Code} (h:∀ K:Act→World→Prop,Hid (∀ a w,y.wp P Q a w→K a w)→x.wp P (Exit.then K Q) a w):(Code.seq x y).wp P Q a w:=wp_seq_k fun K hK=>h K (hD hK)
theorem wp_abw {P:Program} {Q:Exit→Act→World→Prop} {tm:Array Value} {w:World} {c:Code} (F:Array Value→World→Prop) (hF:F tm w) (h:∀ t W,F t W→c.wp P Q ⟨t,[]⟩ W):c.wp P Q ⟨tm,[]⟩ w:=h tm w hF
end
section
def RvK (k:Nat) (w:World) (A:Option Addr) (R:List (List Value)):Prop:=0<R.length→∃ b off,A=some ⟨b,off,none⟩∧b<w.heap.size∧∀ i vs,R[i]?=some vs→w.rangeAt b (off+i*k) vs
theorem RvK.keep {k:Nat} {w w':World} {A:Option Addr} {R:List (List Value)} (h:RvK k w A R) (hb:Below w.heap.size w w'):RvK k w' A R:=fun h0 =>
 let ⟨b,off,e,hl,hp⟩:=h h0;⟨b,off,e,Nat.lt_of_lt_of_le hl hb.size,fun i vs hi=>rangeB (hp i vs hi) (hb.block b hl)⟩
theorem RvK.nil (k:Nat) (w:World) (A:Option Addr):RvK k w A []:=fun h=>absurd h (by simp)
def RpK (k:Nat) (w:World) (g:Nat) (T:TypeId) (n j:Nat) (R:List (List Value)):Prop:=∃ cs:Array Value,w.heap[g]?=some (.cells cs T (0,0))∧cs.size=n*k∧∀ i vs,i<j→R[i]?=some vs→InS cs (i*k) vs
theorem RpK.lt {k:Nat} {w:World} {g:Nat} {T:TypeId} {n j:Nat} {R:List (List Value)} (h:RpK k w g T n j R):g<w.heap.size:=by obtain ⟨cs,hh,_⟩:=h;exact ltS hh
theorem RpK.keep' {k:Nat} {w w':World} {g:Nat} {T:TypeId} {n j:Nat} {R:List (List Value)} (h:RpK k w g T n j R) (hb:w'.heap[g]?=w.heap[g]?):RpK k w' g T n j R:=by
 obtain ⟨cs,hh,r⟩:=h;exact ⟨cs,hb.trans hh,r⟩
theorem RpK.keep {k:Nat} {w w':World} {g:Nat} {T:TypeId} {n j:Nat} {R:List (List Value)} (h:RpK k w g T n j R) (hb:Below w.heap.size w w'):RpK k w' g T n j R:=h.keep' (hb.block g h.lt)
theorem RpK.there {k:Nat} {w:World} {g:Nat} {T:TypeId} {n j:Nat} {R:List (List Value)} (h:RpK k w g T n j R) {i:Nat} (hi:i<n):w.there g (i*k) k:=by
 obtain ⟨cs,hh,hs,_⟩:=h;refine thereB hh ?_;rw [hs]
 calc i*k+k=(i+1)*k:=by rw [Nat.add_mul,Nat.one_mul]
  _≤n*k:=Nat.mul_le_mul_right k hi
theorem RpK.step {k:Nat} {w:World} {g:Nat} {T:TypeId} {n j:Nat} {R:List (List Value)} (h:RpK k w g T n j R) (hR:∀ vs ∈ R,vs.length=k) {vs:List Value} (hv:R[j]?=some vs) (hj:j<n):RpK k (w.setCells g (j*k) vs) g T n (j+1) R:=by
 obtain ⟨cs,hh,hs,hc⟩:=h;have hl:=hR vs (List.mem_of_getElem? hv);have e:(j+1)*k≤n*k:=Nat.mul_le_mul_right k hj;rw [Nat.add_mul,Nat.one_mul] at e;refine ⟨_,heap_setCells vs (j*k) _ _ hh,(wrAt_size _ _ _).trans hs,fun i us hi hu=>?_⟩
 by_cases ei:i=j
 ·subst ei;rw [hv] at hu;obtain rfl:=Option.some.inj hu;exact InS.write (by rw [hl,hs];omega)
 ·have e2:(i+1)*k≤j*k:=Nat.mul_le_mul_right k (by omega);rw [Nat.add_mul,Nat.one_mul] at e2;exact (hc i us (by omega) hu).keepS (.inl (by rw [hR us (List.mem_of_getElem? hu)];omega))
theorem RpK.new {k:Nat} {w:World} {f:Array Value} {T:TypeId} {n:Nat} (R:List (List Value)) (hf:f.size=n*k):RpK k (w.alloc (.cells f T)) w.heap.size T n 0 R:=⟨f,newS _ _,hf,fun i vs hi=>absurd hi (by omega)⟩
def RbK (k:Nat) (w:World) (g:Nat) (T:TypeId) (R:List (List Value)):Prop:=RpK k w g T R.length R.length R
theorem RbK.v {k:Nat} {w:World} {g:Nat} {T:TypeId} {R:List (List Value)} (h:RbK k w g T R):RvK k w (some ⟨g,0,none⟩) R:=fun _=>by
 obtain ⟨cs,hh,hs,hc⟩:=h;refine ⟨g,0,rfl,ltS hh,fun i vs hv j v hj=>?_⟩;rw [Nat.zero_add];exact (cellS hh _).trans (hc i vs (List.getElem?_eq_some_iff.1 hv).1 hv j v hj)
theorem RpK.whole {k:Nat} {w:World} {g:Nat} {T:TypeId} {n j:Nat} {R:List (List Value)} (h:RpK k w g T n j R) (hn:n=R.length) (hj:n≤j):RbK k w g T R:=by
 subst hn;obtain ⟨cs,hh,hs,hc⟩:=h;exact ⟨cs,hh,hs,fun i vs hi hv=>hc i vs (by omega) hv⟩
def one (vs:List Value):Prop:=∀ v ∈ vs,v.oneCell'=true
theorem ldK {P:Program} {ops:Array Oper} {rest:List Oper} {op:Oper} {a:Act} {w:World} {Q:Exit→Act→World→Prop} (T:TypeId) (x:Operand) (vs:List Value) (b o:Nat) {d:TypeDesc} (hgd:op.guard=none) (ho:op.op=.load T x)
  (hc:w.rangeAt b o vs) (hu:P.underlying T=some d) (hd:d.isRow=true) (hi:(P.info? T).map (·.size)=some vs.length) (hx:a.eval x=.pointer (some ⟨b,o,none⟩))
  (h:wpList P ops Q rest (a.put op.dst (.agg vs.toArray)) w):wpList P ops Q (op :: rest) a w :=
 wpList_load_mid hgd T x ho b o hx vs d hc hu hd hi h
theorem stK {P:Program} {ops:Array Oper} {rest:List Oper} {op:Oper} {a:Act} {w:World} {Q:Exit→Act→World→Prop} (T:TypeId) (x y:Operand) (vs:List Value) (b o:Nat) (hgd:op.guard=none) (ho:op.op=.store T x y)
  (ht:w.there b o vs.length) (hi:(P.info? T).map (·.size)=some vs.length) (h1:one vs) (hx:a.eval x=.pointer (some ⟨b,o,none⟩)) (hy:a.eval y=.agg vs.toArray)
  (h:wpList P ops Q rest (a.put op.dst undef) (w.setCells b o vs)):wpList P ops Q (op :: rest) a w:=by
 refine wpList_store_mid hgd T x y ho b o vs.toArray hx hy (by simpa using ht) (by simpa using hi) (all_oneCell_toArray h1) ?_
 simpa using h
theorem allocK {P:Program} {ops:Array Oper} {rest:List Oper} {op:Oper} {a:Act} {w:World} {Q:Exit→Act→World→Prop} (T:TypeId) (k:Nat) (hgd:op.guard=none) (ho:op.op=.alloc T) (hi:∃ i z,P.info? T=some i∧i.zero=some z∧z.cells.size=k)
  (h:∀ f:Array Value,f.size=k→wpList P ops Q rest (a.put op.dst (.pointer (some ⟨w.heap.size,0,none⟩))) (w.alloc (.cells f T))):wpList P ops Q (op :: rest) a w:=by
 obtain ⟨i,z,h1,h2,h3⟩:=hi
 refine wpList_plain hgd fun K hK=>?_
 have:=hK _ _ (h z.cells h3)
 unfold Oper.wp execOp;simp only [ho]
 simpa [Instr.alloc,zeroValue,typeInfo,h1,h2,newVar,go_sem] using this
theorem info_z {P:Program} {T:TypeId} {k:Nat} (h:(P.info? T).map (fun i=>i.zero.map (fun z=>z.cells.size))=some (some k)):∃ i z,P.info? T=some i∧i.zero=some z∧z.cells.size=k:=by
 cases hq:P.info? T with
 | none=>rw [hq] at h;cases h
 | some i =>
  rw [hq] at h;simp only [Option.map_some,Option.some.injEq] at h
  cases hz:i.zero with
  | none=>rw [hz] at h;cases h
  | some z=>rw [hz] at h;simp only [Option.map_some,Option.some.injEq] at h;exact ⟨i,z,rfl,hz,h⟩
theorem madeK (S T:TypeId) (k:Nat) (hk:k≤64) (hu:Tryz.prog.underlying S=some (.slice T)) (hinfo:(Tryz.prog.info? T).map (fun i=>(i.size,decide (i.bytes≤512),i.zero.isSome))=some (k,true,true)):∃ f:Nat→Array Value,(∀ n,(f n).size=n*k)∧∀ (n:Nat) (w:World),n≤1048576→(Instr.makeSlice S (.int .i64 (n:Int)) (.int .i64 (n:Int))).run Tryz.prog w=.ok (.slice (some ⟨w.heap.size,0,none⟩) n n) (w.alloc (.cells (f n) T)):=by
 obtain ⟨i,z,hi,h1,h2,h3⟩:∃ (i:TypeInfo) (z:Value),Tryz.prog.info? T=some i∧i.zero=some z∧i.size=k∧i.bytes≤512:=by
  cases hq:Tryz.prog.info? T with
  | none=>rw [hq] at hinfo;cases hinfo
  | some i =>
   rw [hq] at hinfo;simp only [Option.map_some,Option.some.injEq,Prod.mk.injEq] at hinfo;obtain ⟨e1,e2,e3⟩:=hinfo;obtain ⟨z,hz⟩:=Option.isSome_iff_exists.1 e3;exact ⟨i,z,rfl,hz,e1,by simpa using e2⟩
 refine ⟨fun n=>madeCells z.cells (n*k),fun n=>size_madeCells _ _,fun n w hn=>?_⟩;have e:((i.bytes*n:Nat):Int)≤((512*1048576:Nat):Int):=Int.ofNat_le.2 (Nat.mul_le_mul h3 hn);rw [Int.natCast_mul] at e;have hr:=run_make (P:=Tryz.prog) w S T i _ hu hi h1 .i64 .i64 n n (by omega) (Int.le_refl _) (Int.le_trans e (by decide)) (by omega);rw [h2] at hr
 simpa using hr
end
section
theorem inf_widget:(Tryz.prog.info? 108).map (·.size)=some 37:=by kernel_rfl
theorem infz_widget:∃ i z,Tryz.prog.info? 108=some i∧i.zero=some z∧z.cells.size=37:=info_z (by kernel_rfl)
theorem made_widget:∃ f:Nat→Array Value,(∀ n,(f n).size=n*37)∧∀ (n:Nat) (w:World),n≤1048576→(Instr.makeSlice 105 (.int .i64 (n:Int)) (.int .i64 (n:Int))).run Tryz.prog w=.ok (.slice (some ⟨w.heap.size,0,none⟩) n n) (w.alloc (.cells (f n) 108)):=madeK _ _ 37 (by omega) Tryz.underlying105 (by kernel_rfl)
theorem inf_Cell:(Tryz.prog.info? 80).map (·.size)=some 9:=by kernel_rfl
theorem infz_Cell:∃ i z,Tryz.prog.info? 80=some i∧i.zero=some z∧z.cells.size=9:=info_z (by kernel_rfl)
theorem made_Cell:∃ f:Nat→Array Value,(∀ n,(f n).size=n*9)∧∀ (n:Nat) (w:World),n≤1048576→(Instr.makeSlice 121 (.int .i64 (n:Int)) (.int .i64 (n:Int))).run Tryz.prog w=.ok (.slice (some ⟨w.heap.size,0,none⟩) n n) (w.alloc (.cells (f n) 80)):=madeK _ _ 9 (by omega) Tryz.underlying121 (by kernel_rfl)
theorem inf_Place:(Tryz.prog.info? 82).map (·.size)=some 9:=by kernel_rfl
theorem infz_Place:∃ i z,Tryz.prog.info? 82=some i∧i.zero=some z∧z.cells.size=9:=info_z (by kernel_rfl)
theorem made_Place:∃ f:Nat→Array Value,(∀ n,(f n).size=n*9)∧∀ (n:Nat) (w:World),n≤1048576→(Instr.makeSlice 160 (.int .i64 (n:Int)) (.int .i64 (n:Int))).run Tryz.prog w=.ok (.slice (some ⟨w.heap.size,0,none⟩) n n) (w.alloc (.cells (f n) 82)):=madeK _ _ 9 (by omega) Tryz.underlying160 (by kernel_rfl)
theorem inf_Pack:(Tryz.prog.info? 78).map (·.size)=some 9:=by kernel_rfl
theorem infz_Pack:∃ i z,Tryz.prog.info? 78=some i∧i.zero=some z∧z.cells.size=9:=info_z (by kernel_rfl)
theorem made_Pack:∃ f:Nat→Array Value,(∀ n,(f n).size=n*9)∧∀ (n:Nat) (w:World),n≤1048576→(Instr.makeSlice 118 (.int .i64 (n:Int)) (.int .i64 (n:Int))).run Tryz.prog w=.ok (.slice (some ⟨w.heap.size,0,none⟩) n n) (w.alloc (.cells (f n) 78)):=madeK _ _ 9 (by omega) Tryz.underlying118 (by kernel_rfl)
theorem inf_wish:(Tryz.prog.info? 93).map (·.size)=some 2:=by kernel_rfl
theorem infz_wish:∃ i z,Tryz.prog.info? 93=some i∧i.zero=some z∧z.cells.size=2:=info_z (by kernel_rfl)
theorem made_wish:∃ f:Nat→Array Value,(∀ n,(f n).size=n*2)∧∀ (n:Nat) (w:World),n≤1048576→(Instr.makeSlice 90 (.int .i64 (n:Int)) (.int .i64 (n:Int))).run Tryz.prog w=.ok (.slice (some ⟨w.heap.size,0,none⟩) n n) (w.alloc (.cells (f n) 93)):=madeK _ _ 2 (by omega) Tryz.underlying90 (by kernel_rfl)
theorem inf_Rect:(Tryz.prog.info? 45).map (·.size)=some 4:=by kernel_rfl
theorem made_Rect:∃ f:Nat→Array Value,(∀ n,(f n).size=n*4)∧∀ (n:Nat) (w:World),n≤1048576→(Instr.makeSlice 26 (.int .i64 (n:Int)) (.int .i64 (n:Int))).run Tryz.prog w=.ok (.slice (some ⟨w.heap.size,0,none⟩) n n) (w.alloc (.cells (f n) 45)):=madeK _ _ 4 (by omega) Tryz.underlying26 (by kernel_rfl)
end
end Go.Proofs.YtenckjdiggaonaaGreat
