import Derived.Test.YtenckjdiggaonaaGreatQu24
set_option linter.unusedVariables false
set_option linter.unusedSimpArgs false
set_option maxRecDepth 100000
set_option maxHeartbeats 16000000
namespace Go.Proofs.YtenckjdiggaonaaGreat
open Go.RowKit
attribute [local go_sem] growUpon_value growUpon_skip growUpon_enter
section
def NodS (w:World) (g:Nat) (S:List Nr):Prop:=∃ cs:Array Value,w.heap[g]?=some (.cells cs 84 (0,0))∧cs.size=S.length*34∧∀ i q,S[i]?=some q→cs[i*34+5]?=some (.slice q.ca q.n.cs.length q.cc)∧cs[i*34+6]?=some (.slice q.ra q.n.rs.length q.rc)
theorem NodS.of {w:World} {g:Nat} {S:List Nr} (h:NrB w g S):NodS w g S:=by
 obtain ⟨cs,hh,hs,hc⟩:=h;exact ⟨cs,hh,hs,fun i q hq=>⟨hc i q hq 5 _ rfl,hc i q hq 6 _ rfl⟩⟩
theorem NodS.lt {w:World} {g:Nat} {S:List Nr} (h:NodS w g S):g<w.heap.size:=by obtain ⟨cs,hh,_⟩:=h;exact ltS hh
theorem NodS.keep {w w':World} {g:Nat} {S:List Nr} (h:NodS w g S) (hb:w'.heap[g]?=w.heap[g]?):NodS w' g S:=by
 obtain ⟨cs,hh,r⟩:=h;exact ⟨cs,hb.trans hh,r⟩
theorem NodS.put {w:World} {g:Nat} {S:List Nr} (h:NodS w g S) (k j:Nat) (hj:j<34) (h5:j ≠ 5) (h6:j ≠ 6) (v:Value):NodS (w.setCell ⟨g,k*34+j,none⟩ v) g S:=by
 obtain ⟨cs,hh,hs,hc⟩:=h;refine ⟨_,putS hh v,by simpa using hs,fun i q hq=>?_⟩;obtain ⟨e5,e6⟩:=hc i q hq;rw [Array.getElem?_setIfInBounds_ne (by omega),Array.getElem?_setIfInBounds_ne (by omega)];exact ⟨e5,e6⟩
theorem NodS.put0 {w:World} {g:Nat} {S:List Nr} (h:NodS w g S) (k:Nat) (v:Value):NodS (w.setCell ⟨g,k*34,none⟩ v) g S:=by
 have:=h.put k 0 (by omega) (by omega) (by omega) v
 simpa only [Nat.add_zero] using this
theorem NodS.cell {w:World} {g:Nat} {S:List Nr} (h:NodS w g S) {k j:Nat} (hk:k<S.length) (hj:j<34):∃ v,w.cell? ⟨g,k*34+j,none⟩=some v:=by
 obtain ⟨cs,hh,hs,_⟩:=h;exact thereS hh (by omega)
theorem NodS.cell0 {w:World} {g:Nat} {S:List Nr} (h:NodS w g S) {k:Nat} (hk:k<S.length):∃ v,w.cell? ⟨g,k*34,none⟩=some v:=by
 have:=h.cell hk (j:=0) (by omega)
 simpa only [Nat.add_zero] using this
theorem NodS.frz {w:World} {g:Nat} {S:List Nr} (h:NodS w g S) (i:Nat):w.frozen? ⟨g,i,none⟩=false:=by
 obtain ⟨cs,hh,_⟩:=h;exact frozenS hh i
theorem NodS.sl {w:World} {g:Nat} {S:List Nr} (h:NodS w g S) {k:Nat} {q:Nr} (hq:S[k]?=some q):w.cell? ⟨g,k*34+5,none⟩=some (.slice q.ca q.n.cs.length q.cc)∧w.cell? ⟨g,k*34+6,none⟩=some (.slice q.ra q.n.rs.length q.rc):=by
 obtain ⟨cs,hh,_,hc⟩:=h;exact ⟨(cellS hh _).trans (hc k q hq).1,(cellS hh _).trans (hc k q hq).2⟩
def LnsS (w:World) (g hi k:Nat) (S:List Nr):Prop:=∀ i q,k≤i→S[i]?=some q→∃ g1 g2,q.ca=some ⟨g1,0,none⟩∧q.cc=q.n.cs.length∧q.ra=some ⟨g2,0,none⟩∧q.rc=q.n.rs.length∧g<g1∧g1<g2∧g2<hi∧LnB w g1 q.n.cs∧LnB w g2 q.n.rs
def ApS (S:List Nr):Prop:=∀ (i j:Nat) (q r:Nr),i<j→S[i]?=some q→S[j]?=some r→∀ a b:Addr,(q.ca=some a ∨ q.ra=some a)→(r.ca=some b ∨ r.ra=some b)→a.block<b.block
theorem LnsS.of {g hi:Nat} {w:World} {R S:List Nr} (h:CpR (g+1) w R S) (hs:w.heap.size≤hi):LnsS w g hi 0 S:=fun i q _ hq=>by
 have hi':=(List.getElem?_eq_some_iff.1 hq).1;rw [h.len] at hi';obtain ⟨g1,g2,rfl,h1,h2,h3,h4⟩:=h.each i _ q (List.getElem?_eq_getElem hi') hq;have l4:=h4.lt;exact ⟨g1,g2,rfl,rfl,rfl,rfl,by omega,h2,by omega,h3,h4⟩
theorem LnsS.put {w:World} {g hi k:Nat} {S:List Nr} (h:LnsS w g hi k S) (o:Nat) (v:Value):LnsS (w.setCell ⟨g,o,none⟩ v) g hi k S:=fun i q hk hq=>by
 obtain ⟨g1,g2,e1,e2,e3,e4,h1,h2,h3,h4,h5⟩:=h i q hk hq;exact ⟨g1,g2,e1,e2,e3,e4,h1,h2,h3,h4.but (gsetS (greflS w g) o v) (by omega),h5.but (gsetS (greflS w g) o v) (by omega)⟩
theorem LnsS.mark {w w':World} {g hi k:Nat} {S:List Nr} {q:Nr} {a:Addr} (h:LnsS w g hi k S) (ha:ApS S) (hq:S[k]?=some q) (hqa:q.ca=some a ∨ q.ra=some a) (hg:w.grownBy w' (some a.block)):LnsS w' g hi (k+1) S:=fun i r hk hr=>by
 obtain ⟨g1,g2,e1,e2,e3,e4,h1,h2,h3,h4,h5⟩:=h i r (by omega) hr;have b1:=ha k i q r (by omega) hq hr a _ hqa (.inl e1);have b2:=ha k i q r (by omega) hq hr a _ hqa (.inr e3)
 dsimp only at b1 b2
 exact ⟨g1,g2,e1,e2,e3,e4,h1,h2,h3,h4.but hg (by omega),h5.but hg (by omega)⟩
theorem mkS_bd (R:List Nr):mkS R≤32*R.length+2*szL R:=by
 induction R with
 | nil=>simp [mkS,szL]
 | cons p t ih=>simp only [mkS,mkW,szL,List.length_cons];omega
structure FmN (t:Array Value) (g n c k:Nat) (z:Int):Prop where
 size:t.size=286
 t0:t[0]?=some (.slice (some ⟨g,0,none⟩) n c)
 t1:t[1]?=some (.int .i64 z)
 t5:t[5]?=some (.int .i64 k)
theorem FmN.all {t:Array Value} {g n c k:Nat} {z:Int} (h:FmN t g n c k z):(∃ l:0<t.size,t[0]=.slice (some ⟨g,0,none⟩) n c)∧(∃ l:1<t.size,t[1]=.int .i64 z)∧(∃ l:5<t.size,t[5]=.int .i64 k)∧t.size=286∧t[0]?=some (.slice (some ⟨g,0,none⟩) n c)∧t[1]?=some (.int .i64 z)∧t[5]?=some (.int .i64 k) :=
 ⟨gE h.t0,gE h.t1,gE h.t5,h.size,h.t0,h.t1,h.t5⟩
structure StN (w W:World) (g hi k j:Nat) (S:List Nr) (q:Nr) (g1 g2:Nat) (b1 b2:Bool):Prop where
 s:NodS W g S
 l:LnsS W g hi j S
 i:Wi g hi w W
 c:b1=true→LnB W g1 q.n.cs
 r:b2=true→LnB W g2 q.n.rs
theorem StN.put {w W:World} {g hi k j':Nat} {S:List Nr} {q:Nr} {g1 g2:Nat} {b1 b2:Bool} (h:StN w W g hi k j' S q g1 g2 b1 b2) (hg:g<g1∧g1<g2∧g2<hi) (j:Nat) (hj:j<34) (h5:j ≠ 5) (h6:j ≠ 6) (v:Value):StN w (W.setCell ⟨g,k*34+j,none⟩ v) g hi k j' S q g1 g2 b1 b2 :=
 ⟨h.s.put k j hj h5 h6 v,h.l.put _ _,h.i.set ⟨Nat.le_refl _,by omega⟩ _,fun e=>(h.c e).but (gsetS (greflS _ g) _ _) (by omega),fun e=>(h.r e).but (gsetS (greflS _ g) _ _) (by omega)⟩
theorem StN.put0 {w W:World} {g hi k j':Nat} {S:List Nr} {q:Nr} {g1 g2:Nat} {b1 b2:Bool} (h:StN w W g hi k j' S q g1 g2 b1 b2) (hg:g<g1∧g1<g2∧g2<hi) (v:Value):StN w (W.setCell ⟨g,k*34,none⟩ v) g hi k j' S q g1 g2 b1 b2:=by
 have:=h.put hg 0 (by omega) (by omega) (by omega) v
 simpa only [Nat.add_zero] using this
theorem markNodeS_v (g hi n c:Nat) (S:List Nr) (z:Int) (w:World) (hn:n=S.length) (hs:NodS w g S) (hl:LnsS w g hi 0 S) (ha:ApS S) (hgh:g<hi) (hL:S.length≤1048576) (hz:S.length+szL S≤1048576) (h1:1≤z) (h2:z≤1000) :
  Calls Tryz.prog 50 #[.slice (some ⟨g,0,none⟩) n c,.int .i64 z] w fun e w'=>e=.returned (.int .i64 (z+mkS S))∧Wi g hi w w':=by
 subst hn;have HA:=hD ha;have HZ:=hD hz;clear ha hz;refine calls_abs Tryz.func50 rfl 286 (by simp only [Tryz.ntmps50]) (by simp) (fun tm hsz hargs=>?_);have h0:tm[0]?=some (.slice (some ⟨g,0,none⟩) S.length c):=get_of (by omega) (hargs 0 _ rfl);have h1':tm[1]?=some (.int .i64 z):=get_of (by omega) (hargs 1 _ rfl);clear hargs
 refine wp_seq_h fun K hK=>?_
 apply wp_region_lit
 repeat go_step
 refine hK.out _ _ ?_;clear hK K
 refine wp_seq_h fun KE hKE=>?_
 refine wp_seq_h fun K hK=>?_
 apply wp_region_lit
 repeat go_step
 refine hK.out _ _ ?_;clear hK K;apply wp_block;refine wp_loop (fun a W=>∃ (t:Array Value) (k:Nat),a=⟨t,[]⟩∧k≤S.length∧FmN t g S.length c k (z+mkS (S.take k))∧NodS W g S∧LnsS W g hi k S∧Wi g hi w W) (fun a _=>S.length - (intOf (a.tmps.getD 5 undef)).toNat) ?_ ?_
 ·exact ⟨_,0,rfl,by omega,⟨by simp [hsz],by simp [h0],by simp [h1',mkS],by simp [hsz]⟩,hs,hl,Wi.refl _ _ _⟩
 clear tm hsz h0 h1' hs hl;rintro a W ⟨t,k,rfl,hk,hF,hs,hl,hW⟩;have HS:=hD hs;have HL:=hD hl;have HW:=hD hW;clear hs hl hW
 have hmu:intOf (t.getD 5 undef)=(k:Int):=by rw [Array.getD_eq_getD_getElem?,hF.t5];rfl
 dsimp only
 rw [hmu];clear hmu
 by_cases hlt:k<S.length
 ·have hd:decide ((k:Int)<(S.length:Int))=true:=by simpa using hlt
  have hget:S[k]?=some S[k]:=List.getElem?_eq_getElem hlt;have hst:=mkS_take hget;have hle:=mkS_le S (k+1);have hbd:=mkS_bd S;have hnn:=mkS_nn (S.take k);have hml:=szL_mem (List.mem_of_getElem? hget);obtain ⟨g1,g2,e1,e2,e3,e4,gl1,gl2,gl3,hb1,hb2⟩:=HL.out k _ (Nat.le_refl _) hget;generalize S[k]=q at *;have HG:=hD hget;have hzz:=HZ.out
  have hk1:q.n.cs.length≤1048576:=by omega
  have hk2:q.n.rs.length≤1048576:=by omega
  obtain ⟨Z0,hZ0⟩:∃ x,z+mkS (S.take k)=x:=⟨_,rfl⟩
  rw [hZ0] at hF
  have b0:1≤Z0:=by omega
  have b0':Z0+mkW q≤50000000:=by unfold mkW at *;omega
  have HZ0:=hD hZ0;have HST:=hD hst;have HE:=hD (And.intro e1 (And.intro e2 (And.intro e3 e4)));have HGL:=hD (And.intro gl1 (And.intro gl2 gl3));have HT:=hD (show StN w W g hi k k S q g1 g2 true true from ⟨HS.out,HL.out,HW.out,fun _=>hb1,fun _=>hb2⟩);clear hget hst hle hbd hnn hml e1 e2 e3 e4 hzz hZ0 hb1 hb2 gl1 gl2 gl3 HS HL HW
  have hW1:0≤mkW q:=by unfold mkW;omega
  obtain ⟨MW,hMW⟩:∃ x,mkW q=x:=⟨_,rfl⟩
  rw [hMW] at b0' hW1;have HMW:=hD hMW;clear hMW;obtain ⟨⟨l0,e0⟩,⟨l1,e1⟩,⟨l5,e5⟩,hsz,f0,f1,f5⟩:=hF.all
  refine wp_seq_h fun K1 hK1=>?_
  refine wp_seq_h fun K hK=>?_
  apply wp_region_lit
  repeat go_step
  refine hK.out _ _ ?_;clear hK K;refine wp_cond_true (by simp [Act.eval,hsz]) ?_;apply wp_skip;simp only [Exit.then];refine hK1.out _ _ ?_;clear hK1 K1;refine wp_abw (fun t' W'=>FmN t' g S.length c k Z0∧W'=W) ⟨⟨by simp [hsz],by simp [f0],by simp [f1],by simp [f5]⟩,rfl⟩ ?_;clear hF l0 l1 l5 e0 e1 e5 hsz f0 f1 f5 t hd;rintro t _ ⟨hF,rfl⟩
  refine wp_seq_h fun KB hKB=>?_
  apply wp_block;obtain ⟨⟨l0,e0⟩,⟨l1,e1⟩,⟨l5,e5⟩,hsz,f0,f1,f5⟩:=hF.all;obtain ⟨y,hy⟩:=HT.out.s.cell0 hlt;have hf:=HT.out.s.frz (k*34);have lg:=HT.out.s.lt
  refine wp_seq_h fun K hK=>?_
  apply wp_region_lit
  repeat go_step
  refine hK.out _ _ ?_;clear hK K;refine wp_abw (fun t' W'=>FmN t' g S.length c k Z0∧StN w W' g hi k k S q g1 g2 true true) ⟨⟨by simp [hsz],by simp [f0],by simp [f1],by simp [f5]⟩,HT.out.put0 HGL.out _⟩ ?_;clear hF l0 l1 l5 e0 e1 e5 hsz f0 f1 f5 t hy hf lg y HT;rintro t W' ⟨hF,hT⟩;have HT:=hD hT;clear hT;obtain ⟨⟨l0,e0⟩,⟨l1,e1⟩,⟨l5,e5⟩,hsz,f0,f1,f5⟩:=hF.all
  refine wp_seq_h fun K hK=>?_
  apply wp_region_lit
  repeat go_step
  obtain ⟨Z1,hz1⟩:∃ x,Z0+1=x:=⟨_,rfl⟩
  refine hK.out _ _ ?_;clear hK K;refine wp_abw (fun t' W1=>FmN t' g S.length c k Z1∧W1=W') ⟨⟨by simp [hsz],by simp [f0],by simp [hsz,hz1],by simp [f5]⟩,rfl⟩ ?_;clear hF l0 l1 l5 e0 e1 e5 hsz f0 f1 f5 t;rintro t _ ⟨hF,rfl⟩
  have b1:1≤Z1∧Z1≤63000000:=by omega
  have HZ1:=hD hz1;clear hz1;obtain ⟨⟨l0,e0⟩,⟨l1,e1⟩,⟨l5,e5⟩,hsz,f0,f1,f5⟩:=hF.all;obtain ⟨y,hy⟩:=HT.out.s.cell (j:=1) hlt (by omega);have hf:=HT.out.s.frz (k*34+1);have lg:=HT.out.s.lt
  refine wp_seq_h fun K hK=>?_
  apply wp_region_lit
  repeat go_step
  refine hK.out _ _ ?_;clear hK K;refine wp_abw (fun t' W'=>FmN t' g S.length c k Z1∧StN w W' g hi k k S q g1 g2 true true) ⟨⟨by simp [hsz],by simp [f0],by simp [f1],by simp [f5]⟩,HT.out.put HGL.out 1 (by omega) (by omega) (by omega) _⟩ ?_;clear hF l0 l1 l5 e0 e1 e5 hsz f0 f1 f5 t hy hf lg y HT;rintro t W' ⟨hF,hT⟩;have HT:=hD hT;clear hT;obtain ⟨⟨l0,e0⟩,⟨l1,e1⟩,⟨l5,e5⟩,hsz,f0,f1,f5⟩:=hF.all
  refine wp_seq_h fun K hK=>?_
  apply wp_region_lit
  repeat go_step
  obtain ⟨Z2,hz1⟩:∃ x,Z1+1=x:=⟨_,rfl⟩
  refine hK.out _ _ ?_;clear hK K;refine wp_abw (fun t' W1=>FmN t' g S.length c k Z2∧W1=W') ⟨⟨by simp [hsz],by simp [f0],by simp [hsz,hz1],by simp [f5]⟩,rfl⟩ ?_;clear hF l0 l1 l5 e0 e1 e5 hsz f0 f1 f5 t;rintro t _ ⟨hF,rfl⟩
  have b2:1≤Z2∧Z2≤66000000:=by omega
  have HZ2:=hD hz1;clear hz1 b1;obtain ⟨⟨l0,e0⟩,⟨l1,e1⟩,⟨l5,e5⟩,hsz,f0,f1,f5⟩:=hF.all;obtain ⟨y,hy⟩:=HT.out.s.cell (j:=2) hlt (by omega);have hf:=HT.out.s.frz (k*34+2);have lg:=HT.out.s.lt
  refine wp_seq_h fun K hK=>?_
  apply wp_region_lit
  repeat go_step
  refine hK.out _ _ ?_;clear hK K;refine wp_abw (fun t' W'=>FmN t' g S.length c k Z2∧StN w W' g hi k k S q g1 g2 true true) ⟨⟨by simp [hsz],by simp [f0],by simp [f1],by simp [f5]⟩,HT.out.put HGL.out 2 (by omega) (by omega) (by omega) _⟩ ?_;clear hF l0 l1 l5 e0 e1 e5 hsz f0 f1 f5 t hy hf lg y HT;rintro t W' ⟨hF,hT⟩;have HT:=hD hT;clear hT;obtain ⟨⟨l0,e0⟩,⟨l1,e1⟩,⟨l5,e5⟩,hsz,f0,f1,f5⟩:=hF.all
  refine wp_seq_h fun K hK=>?_
  apply wp_region_lit
  repeat go_step
  obtain ⟨Z3,hz1⟩:∃ x,Z2+1=x:=⟨_,rfl⟩
  refine hK.out _ _ ?_;clear hK K;refine wp_abw (fun t' W1=>FmN t' g S.length c k Z3∧W1=W') ⟨⟨by simp [hsz],by simp [f0],by simp [hsz,hz1],by simp [f5]⟩,rfl⟩ ?_;clear hF l0 l1 l5 e0 e1 e5 hsz f0 f1 f5 t;rintro t _ ⟨hF,rfl⟩
  have b3:1≤Z3∧Z3≤69000000:=by omega
  have HZ3:=hD hz1;clear hz1 b2;obtain ⟨⟨l0,e0⟩,⟨l1,e1⟩,⟨l5,e5⟩,hsz,f0,f1,f5⟩:=hF.all;obtain ⟨y,hy⟩:=HT.out.s.cell (j:=3) hlt (by omega);have hf:=HT.out.s.frz (k*34+3);have lg:=HT.out.s.lt
  refine wp_seq_h fun K hK=>?_
  apply wp_region_lit
  repeat go_step
  refine hK.out _ _ ?_;clear hK K;refine wp_abw (fun t' W'=>FmN t' g S.length c k Z3∧StN w W' g hi k k S q g1 g2 true true) ⟨⟨by simp [hsz],by simp [f0],by simp [f1],by simp [f5]⟩,HT.out.put HGL.out 3 (by omega) (by omega) (by omega) _⟩ ?_;clear hF l0 l1 l5 e0 e1 e5 hsz f0 f1 f5 t hy hf lg y HT;rintro t W' ⟨hF,hT⟩;have HT:=hD hT;clear hT;obtain ⟨⟨l0,e0⟩,⟨l1,e1⟩,⟨l5,e5⟩,hsz,f0,f1,f5⟩:=hF.all
  refine wp_seq_h fun K hK=>?_
  apply wp_region_lit
  repeat go_step
  obtain ⟨Z4,hz1⟩:∃ x,Z3+1=x:=⟨_,rfl⟩
  refine hK.out _ _ ?_;clear hK K;refine wp_abw (fun t' W1=>FmN t' g S.length c k Z4∧W1=W') ⟨⟨by simp [hsz],by simp [f0],by simp [hsz,hz1],by simp [f5]⟩,rfl⟩ ?_;clear hF l0 l1 l5 e0 e1 e5 hsz f0 f1 f5 t;rintro t _ ⟨hF,rfl⟩
  have b4:1≤Z4∧Z4≤72000000:=by omega
  have HZ4:=hD hz1;clear hz1 b3;obtain ⟨⟨l0,e0⟩,⟨l1,e1⟩,⟨l5,e5⟩,hsz,f0,f1,f5⟩:=hF.all;obtain ⟨y,hy⟩:=HT.out.s.cell (j:=4) hlt (by omega);have hf:=HT.out.s.frz (k*34+4);have lg:=HT.out.s.lt
  refine wp_seq_h fun K hK=>?_
  apply wp_region_lit
  repeat go_step
  refine hK.out _ _ ?_;clear hK K;refine wp_abw (fun t' W'=>FmN t' g S.length c k Z4∧StN w W' g hi k k S q g1 g2 true true) ⟨⟨by simp [hsz],by simp [f0],by simp [f1],by simp [f5]⟩,HT.out.put HGL.out 4 (by omega) (by omega) (by omega) _⟩ ?_;clear hF l0 l1 l5 e0 e1 e5 hsz f0 f1 f5 t hy hf lg y HT;rintro t W' ⟨hF,hT⟩;have HT:=hD hT;clear hT;obtain ⟨⟨l0,e0⟩,⟨l1,e1⟩,⟨l5,e5⟩,hsz,f0,f1,f5⟩:=hF.all
  refine wp_seq_h fun K hK=>?_
  apply wp_region_lit
  repeat go_step
  obtain ⟨Z5,hz1⟩:∃ x,Z4+1=x:=⟨_,rfl⟩
  refine hK.out _ _ ?_;clear hK K;refine wp_abw (fun t' W1=>FmN t' g S.length c k Z5∧W1=W') ⟨⟨by simp [hsz],by simp [f0],by simp [hsz,hz1],by simp [f5]⟩,rfl⟩ ?_;clear hF l0 l1 l5 e0 e1 e5 hsz f0 f1 f5 t;rintro t _ ⟨hF,rfl⟩
  have b5:1≤Z5∧Z5≤75000000:=by omega
  have HZ5:=hD hz1;clear hz1 b4;obtain ⟨⟨l0,e0⟩,⟨l1,e1⟩,⟨l5,e5⟩,hsz,f0,f1,f5⟩:=hF.all;have hsl:=HT.out.s.sl HG.out;have hc5:=hsl.1;rw [HE.out.1,HE.out.2.1] at hc5;clear hsl;have lg:=HT.out.s.lt
  refine wp_seq_h fun K hK=>?_
  apply wp_region_lit
  repeat go_step
  refine (markLnS_v g1 q.n.cs.length Z5 q.n.cs _ (HT.out.c rfl) rfl hk1 (by omega) (by omega)).mono ?_;rintro e W1 ⟨rfl,hgr⟩
  dsimp only
  obtain ⟨Z6,hz1⟩:∃ x,(q.n.cs.length:Int)*2+Z5=x:=⟨_,rfl⟩
  have HT':StN w W1 g hi k (k+1) S q g1 g2 false true:=⟨HT.out.s.keep (hgr.block g HT.out.s.lt (by have:=HGL.out;simp;omega)),HT.out.l.mark HA.out HG.out (.inl HE.out.1) hgr,HT.out.i.grown hgr (.inl (by have:=HGL.out;omega)),(fun e=>by cases e),fun _=>(HT.out.r rfl).but hgr (by have:=HGL.out;omega)⟩
  replace HT:=hD HT';clear HT' hgr hc5 lg
  repeat go_step
  refine hK.out _ _ ?_;clear hK K;refine wp_abw (fun t' W2=>FmN t' g S.length c k Z6∧W2=W1) ⟨⟨by simp [hsz],by simp [f0],by simp [hsz,hz1],by simp [f5]⟩,rfl⟩ ?_;clear hF l0 l1 l5 e0 e1 e5 hsz f0 f1 f5 t;rintro t _ ⟨hF,rfl⟩
  have b6:1≤Z6∧Z6≤78000000:=by omega
  have HZ6:=hD hz1;clear hz1 b5;obtain ⟨⟨l0,e0⟩,⟨l1,e1⟩,⟨l5,e5⟩,hsz,f0,f1,f5⟩:=hF.all;have hsl:=HT.out.s.sl HG.out;have hc6:=hsl.2;rw [HE.out.2.2.1,HE.out.2.2.2] at hc6;clear hsl;have lg:=HT.out.s.lt
  refine wp_seq_h fun K hK=>?_
  apply wp_region_lit
  repeat go_step
  refine (markLnS_v g2 q.n.rs.length Z6 q.n.rs _ (HT.out.r rfl) rfl hk2 (by omega) (by omega)).mono ?_;rintro e W1 ⟨rfl,hgr⟩
  dsimp only
  obtain ⟨Z7,hz1⟩:∃ x,(q.n.rs.length:Int)*2+Z6=x:=⟨_,rfl⟩
  have HL':LnsS W1 g hi (k+1) S:=fun i r hk hr=>by
   obtain ⟨g1',g2',x1,x2,x3,x4,x5,x6,x7,x8,x9⟩:=HT.out.l i r hk hr;have b1:=HA.out k i q r (by omega) HG.out hr _ _ (.inr HE.out.2.2.1) (.inl x1);have b2:=HA.out k i q r (by omega) HG.out hr _ _ (.inr HE.out.2.2.1) (.inr x3)
   dsimp only at b1 b2
   exact ⟨g1',g2',x1,x2,x3,x4,x5,x6,x7,x8.but hgr (by omega),x9.but hgr (by omega)⟩
  have HT':StN w W1 g hi k (k+1) S q g1 g2 false false:=⟨HT.out.s.keep (hgr.block g HT.out.s.lt (by have:=HGL.out;simp;omega)),HL',HT.out.i.grown hgr (.inl (by have:=HGL.out;omega)),(fun e=>by cases e),(fun e=>by cases e)⟩
  clear HL';replace HT:=hD HT';clear HT' hgr hc6 lg
  repeat go_step
  refine hK.out _ _ ?_;clear hK K;refine wp_abw (fun t' W2=>FmN t' g S.length c k Z7∧W2=W1) ⟨⟨by simp [hsz],by simp [f0],by simp [hsz,hz1],by simp [f5]⟩,rfl⟩ ?_;clear hF l0 l1 l5 e0 e1 e5 hsz f0 f1 f5 t;rintro t _ ⟨hF,rfl⟩
  have b7:1≤Z7∧Z7≤81000000:=by omega
  have HZ7:=hD hz1;clear hz1 b6;obtain ⟨⟨l0,e0⟩,⟨l1,e1⟩,⟨l5,e5⟩,hsz,f0,f1,f5⟩:=hF.all;obtain ⟨y,hy⟩:=HT.out.s.cell (j:=7) hlt (by omega);have hf:=HT.out.s.frz (k*34+7);have lg:=HT.out.s.lt
  refine wp_seq_h fun K hK=>?_
  apply wp_region_lit
  repeat go_step
  refine hK.out _ _ ?_;clear hK K;refine wp_abw (fun t' W'=>FmN t' g S.length c k Z7∧StN w W' g hi k (k+1) S q g1 g2 false false) ⟨⟨by simp [hsz],by simp [f0],by simp [f1],by simp [f5]⟩,HT.out.put HGL.out 7 (by omega) (by omega) (by omega) _⟩ ?_;clear hF l0 l1 l5 e0 e1 e5 hsz f0 f1 f5 t hy hf lg y HT;rintro t W' ⟨hF,hT⟩;have HT:=hD hT;clear hT;obtain ⟨⟨l0,e0⟩,⟨l1,e1⟩,⟨l5,e5⟩,hsz,f0,f1,f5⟩:=hF.all
  refine wp_seq_h fun K hK=>?_
  apply wp_region_lit
  repeat go_step
  obtain ⟨Z8,hz1⟩:∃ x,Z7+1=x:=⟨_,rfl⟩
  refine hK.out _ _ ?_;clear hK K;refine wp_abw (fun t' W1=>FmN t' g S.length c k Z8∧W1=W') ⟨⟨by simp [hsz],by simp [f0],by simp [hsz,hz1],by simp [f5]⟩,rfl⟩ ?_;clear hF l0 l1 l5 e0 e1 e5 hsz f0 f1 f5 t;rintro t _ ⟨hF,rfl⟩
  have b8:1≤Z8∧Z8≤84000000:=by omega
  have HZ8:=hD hz1;clear hz1 b7;obtain ⟨⟨l0,e0⟩,⟨l1,e1⟩,⟨l5,e5⟩,hsz,f0,f1,f5⟩:=hF.all;obtain ⟨y,hy⟩:=HT.out.s.cell (j:=8) hlt (by omega);have hf:=HT.out.s.frz (k*34+8);have lg:=HT.out.s.lt
  refine wp_seq_h fun K hK=>?_
  apply wp_region_lit
  repeat go_step
  refine hK.out _ _ ?_;clear hK K;refine wp_abw (fun t' W'=>FmN t' g S.length c k Z8∧StN w W' g hi k (k+1) S q g1 g2 false false) ⟨⟨by simp [hsz],by simp [f0],by simp [f1],by simp [f5]⟩,HT.out.put HGL.out 8 (by omega) (by omega) (by omega) _⟩ ?_;clear hF l0 l1 l5 e0 e1 e5 hsz f0 f1 f5 t hy hf lg y HT;rintro t W' ⟨hF,hT⟩;have HT:=hD hT;clear hT;obtain ⟨⟨l0,e0⟩,⟨l1,e1⟩,⟨l5,e5⟩,hsz,f0,f1,f5⟩:=hF.all
  refine wp_seq_h fun K hK=>?_
  apply wp_region_lit
  repeat go_step
  obtain ⟨Z9,hz1⟩:∃ x,Z8+1=x:=⟨_,rfl⟩
  refine hK.out _ _ ?_;clear hK K;refine wp_abw (fun t' W1=>FmN t' g S.length c k Z9∧W1=W') ⟨⟨by simp [hsz],by simp [f0],by simp [hsz,hz1],by simp [f5]⟩,rfl⟩ ?_;clear hF l0 l1 l5 e0 e1 e5 hsz f0 f1 f5 t;rintro t _ ⟨hF,rfl⟩
  have b9:1≤Z9∧Z9≤87000000:=by omega
  have HZ9:=hD hz1;clear hz1 b8;obtain ⟨⟨l0,e0⟩,⟨l1,e1⟩,⟨l5,e5⟩,hsz,f0,f1,f5⟩:=hF.all;obtain ⟨y,hy⟩:=HT.out.s.cell (j:=9) hlt (by omega);have hf:=HT.out.s.frz (k*34+9);have lg:=HT.out.s.lt
  refine wp_seq_h fun K hK=>?_
  apply wp_region_lit
  repeat go_step
  refine hK.out _ _ ?_;clear hK K;refine wp_abw (fun t' W'=>FmN t' g S.length c k Z9∧StN w W' g hi k (k+1) S q g1 g2 false false) ⟨⟨by simp [hsz],by simp [f0],by simp [f1],by simp [f5]⟩,HT.out.put HGL.out 9 (by omega) (by omega) (by omega) _⟩ ?_;clear hF l0 l1 l5 e0 e1 e5 hsz f0 f1 f5 t hy hf lg y HT;rintro t W' ⟨hF,hT⟩;have HT:=hD hT;clear hT;obtain ⟨⟨l0,e0⟩,⟨l1,e1⟩,⟨l5,e5⟩,hsz,f0,f1,f5⟩:=hF.all
  refine wp_seq_h fun K hK=>?_
  apply wp_region_lit
  repeat go_step
  obtain ⟨Z10,hz1⟩:∃ x,Z9+1=x:=⟨_,rfl⟩
  refine hK.out _ _ ?_;clear hK K;refine wp_abw (fun t' W1=>FmN t' g S.length c k Z10∧W1=W') ⟨⟨by simp [hsz],by simp [f0],by simp [hsz,hz1],by simp [f5]⟩,rfl⟩ ?_;clear hF l0 l1 l5 e0 e1 e5 hsz f0 f1 f5 t;rintro t _ ⟨hF,rfl⟩
  have b10:1≤Z10∧Z10≤90000000:=by omega
  have HZ10:=hD hz1;clear hz1 b9;obtain ⟨⟨l0,e0⟩,⟨l1,e1⟩,⟨l5,e5⟩,hsz,f0,f1,f5⟩:=hF.all;obtain ⟨y,hy⟩:=HT.out.s.cell (j:=10) hlt (by omega);have hf:=HT.out.s.frz (k*34+10);have lg:=HT.out.s.lt
  refine wp_seq_h fun K hK=>?_
  apply wp_region_lit
  repeat go_step
  refine hK.out _ _ ?_;clear hK K;refine wp_abw (fun t' W'=>FmN t' g S.length c k Z10∧StN w W' g hi k (k+1) S q g1 g2 false false) ⟨⟨by simp [hsz],by simp [f0],by simp [f1],by simp [f5]⟩,HT.out.put HGL.out 10 (by omega) (by omega) (by omega) _⟩ ?_;clear hF l0 l1 l5 e0 e1 e5 hsz f0 f1 f5 t hy hf lg y HT;rintro t W' ⟨hF,hT⟩;have HT:=hD hT;clear hT
  obtain ⟨⟨l0,e0⟩,⟨l1,e1⟩,⟨l5,e5⟩,hsz,f0,f1,f5⟩:=hF.all
  refine wp_seq_h fun K hK=>?_
  apply wp_region_lit
  repeat go_step
  obtain ⟨Z11,hz1⟩:∃ x,Z10+1=x:=⟨_,rfl⟩
  refine hK.out _ _ ?_;clear hK K;refine wp_abw (fun t' W1=>FmN t' g S.length c k Z11∧W1=W') ⟨⟨by simp [hsz],by simp [f0],by simp [hsz,hz1],by simp [f5]⟩,rfl⟩ ?_;clear hF l0 l1 l5 e0 e1 e5 hsz f0 f1 f5 t;rintro t _ ⟨hF,rfl⟩
  have b11:1≤Z11∧Z11≤93000000:=by omega
  have HZ11:=hD hz1;clear hz1 b10;obtain ⟨⟨l0,e0⟩,⟨l1,e1⟩,⟨l5,e5⟩,hsz,f0,f1,f5⟩:=hF.all;obtain ⟨y,hy⟩:=HT.out.s.cell (j:=11) hlt (by omega);have hf:=HT.out.s.frz (k*34+11);have lg:=HT.out.s.lt
  refine wp_seq_h fun K hK=>?_
  apply wp_region_lit
  repeat go_step
  refine hK.out _ _ ?_;clear hK K;refine wp_abw (fun t' W'=>FmN t' g S.length c k Z11∧StN w W' g hi k (k+1) S q g1 g2 false false) ⟨⟨by simp [hsz],by simp [f0],by simp [f1],by simp [f5]⟩,HT.out.put HGL.out 11 (by omega) (by omega) (by omega) _⟩ ?_;clear hF l0 l1 l5 e0 e1 e5 hsz f0 f1 f5 t hy hf lg y HT;rintro t W' ⟨hF,hT⟩;have HT:=hD hT;clear hT
  obtain ⟨⟨l0,e0⟩,⟨l1,e1⟩,⟨l5,e5⟩,hsz,f0,f1,f5⟩:=hF.all
  refine wp_seq_h fun K hK=>?_
  apply wp_region_lit
  repeat go_step
  obtain ⟨Z12,hz1⟩:∃ x,Z11+1=x:=⟨_,rfl⟩
  refine hK.out _ _ ?_;clear hK K;refine wp_abw (fun t' W1=>FmN t' g S.length c k Z12∧W1=W') ⟨⟨by simp [hsz],by simp [f0],by simp [hsz,hz1],by simp [f5]⟩,rfl⟩ ?_;clear hF l0 l1 l5 e0 e1 e5 hsz f0 f1 f5 t;rintro t _ ⟨hF,rfl⟩
  have b12:1≤Z12∧Z12≤96000000:=by omega
  have HZ12:=hD hz1;clear hz1 b11;obtain ⟨⟨l0,e0⟩,⟨l1,e1⟩,⟨l5,e5⟩,hsz,f0,f1,f5⟩:=hF.all;obtain ⟨y,hy⟩:=HT.out.s.cell (j:=12) hlt (by omega);have hf:=HT.out.s.frz (k*34+12);have lg:=HT.out.s.lt
  refine wp_seq_h fun K hK=>?_
  apply wp_region_lit
  repeat go_step
  refine hK.out _ _ ?_;clear hK K;refine wp_abw (fun t' W'=>FmN t' g S.length c k Z12∧StN w W' g hi k (k+1) S q g1 g2 false false) ⟨⟨by simp [hsz],by simp [f0],by simp [f1],by simp [f5]⟩,HT.out.put HGL.out 12 (by omega) (by omega) (by omega) _⟩ ?_;clear hF l0 l1 l5 e0 e1 e5 hsz f0 f1 f5 t hy hf lg y HT;rintro t W' ⟨hF,hT⟩;have HT:=hD hT;clear hT
  obtain ⟨⟨l0,e0⟩,⟨l1,e1⟩,⟨l5,e5⟩,hsz,f0,f1,f5⟩:=hF.all
  refine wp_seq_h fun K hK=>?_
  apply wp_region_lit
  repeat go_step
  obtain ⟨Z13,hz1⟩:∃ x,Z12+1=x:=⟨_,rfl⟩
  refine hK.out _ _ ?_;clear hK K;refine wp_abw (fun t' W1=>FmN t' g S.length c k Z13∧W1=W') ⟨⟨by simp [hsz],by simp [f0],by simp [hsz,hz1],by simp [f5]⟩,rfl⟩ ?_;clear hF l0 l1 l5 e0 e1 e5 hsz f0 f1 f5 t;rintro t _ ⟨hF,rfl⟩
  have b13:1≤Z13∧Z13≤99000000:=by omega
  have HZ13:=hD hz1;clear hz1 b12;obtain ⟨⟨l0,e0⟩,⟨l1,e1⟩,⟨l5,e5⟩,hsz,f0,f1,f5⟩:=hF.all;obtain ⟨y,hy⟩:=HT.out.s.cell (j:=13) hlt (by omega);have hf:=HT.out.s.frz (k*34+13);have lg:=HT.out.s.lt
  refine wp_seq_h fun K hK=>?_
  apply wp_region_lit
  repeat go_step
  refine hK.out _ _ ?_;clear hK K;refine wp_abw (fun t' W'=>FmN t' g S.length c k Z13∧StN w W' g hi k (k+1) S q g1 g2 false false) ⟨⟨by simp [hsz],by simp [f0],by simp [f1],by simp [f5]⟩,HT.out.put HGL.out 13 (by omega) (by omega) (by omega) _⟩ ?_;clear hF l0 l1 l5 e0 e1 e5 hsz f0 f1 f5 t hy hf lg y HT;rintro t W' ⟨hF,hT⟩;have HT:=hD hT;clear hT
  obtain ⟨⟨l0,e0⟩,⟨l1,e1⟩,⟨l5,e5⟩,hsz,f0,f1,f5⟩:=hF.all
  refine wp_seq_h fun K hK=>?_
  apply wp_region_lit
  repeat go_step
  obtain ⟨Z14,hz1⟩:∃ x,Z13+1=x:=⟨_,rfl⟩
  refine hK.out _ _ ?_;clear hK K;refine wp_abw (fun t' W1=>FmN t' g S.length c k Z14∧W1=W') ⟨⟨by simp [hsz],by simp [f0],by simp [hsz,hz1],by simp [f5]⟩,rfl⟩ ?_;clear hF l0 l1 l5 e0 e1 e5 hsz f0 f1 f5 t;rintro t _ ⟨hF,rfl⟩
  have b14:1≤Z14∧Z14≤102000000:=by omega
  have HZ14:=hD hz1;clear hz1 b13;obtain ⟨⟨l0,e0⟩,⟨l1,e1⟩,⟨l5,e5⟩,hsz,f0,f1,f5⟩:=hF.all;obtain ⟨y,hy⟩:=HT.out.s.cell (j:=14) hlt (by omega);have hf:=HT.out.s.frz (k*34+14);have lg:=HT.out.s.lt
  refine wp_seq_h fun K hK=>?_
  apply wp_region_lit
  repeat go_step
  refine hK.out _ _ ?_;clear hK K;refine wp_abw (fun t' W'=>FmN t' g S.length c k Z14∧StN w W' g hi k (k+1) S q g1 g2 false false) ⟨⟨by simp [hsz],by simp [f0],by simp [f1],by simp [f5]⟩,HT.out.put HGL.out 14 (by omega) (by omega) (by omega) _⟩ ?_;clear hF l0 l1 l5 e0 e1 e5 hsz f0 f1 f5 t hy hf lg y HT;rintro t W' ⟨hF,hT⟩;have HT:=hD hT;clear hT
  obtain ⟨⟨l0,e0⟩,⟨l1,e1⟩,⟨l5,e5⟩,hsz,f0,f1,f5⟩:=hF.all
  refine wp_seq_h fun K hK=>?_
  apply wp_region_lit
  repeat go_step
  obtain ⟨Z15,hz1⟩:∃ x,Z14+1=x:=⟨_,rfl⟩
  refine hK.out _ _ ?_;clear hK K;refine wp_abw (fun t' W1=>FmN t' g S.length c k Z15∧W1=W') ⟨⟨by simp [hsz],by simp [f0],by simp [hsz,hz1],by simp [f5]⟩,rfl⟩ ?_;clear hF l0 l1 l5 e0 e1 e5 hsz f0 f1 f5 t;rintro t _ ⟨hF,rfl⟩
  have b15:1≤Z15∧Z15≤105000000:=by omega
  have HZ15:=hD hz1;clear hz1 b14;obtain ⟨⟨l0,e0⟩,⟨l1,e1⟩,⟨l5,e5⟩,hsz,f0,f1,f5⟩:=hF.all;obtain ⟨y,hy⟩:=HT.out.s.cell (j:=15) hlt (by omega);have hf:=HT.out.s.frz (k*34+15);have lg:=HT.out.s.lt
  refine wp_seq_h fun K hK=>?_
  apply wp_region_lit
  repeat go_step
  refine hK.out _ _ ?_;clear hK K;refine wp_abw (fun t' W'=>FmN t' g S.length c k Z15∧StN w W' g hi k (k+1) S q g1 g2 false false) ⟨⟨by simp [hsz],by simp [f0],by simp [f1],by simp [f5]⟩,HT.out.put HGL.out 15 (by omega) (by omega) (by omega) _⟩ ?_;clear hF l0 l1 l5 e0 e1 e5 hsz f0 f1 f5 t hy hf lg y HT;rintro t W' ⟨hF,hT⟩;have HT:=hD hT;clear hT
  obtain ⟨⟨l0,e0⟩,⟨l1,e1⟩,⟨l5,e5⟩,hsz,f0,f1,f5⟩:=hF.all
  refine wp_seq_h fun K hK=>?_
  apply wp_region_lit
  repeat go_step
  obtain ⟨Z16,hz1⟩:∃ x,Z15+1=x:=⟨_,rfl⟩
  refine hK.out _ _ ?_;clear hK K;refine wp_abw (fun t' W1=>FmN t' g S.length c k Z16∧W1=W') ⟨⟨by simp [hsz],by simp [f0],by simp [hsz,hz1],by simp [f5]⟩,rfl⟩ ?_;clear hF l0 l1 l5 e0 e1 e5 hsz f0 f1 f5 t;rintro t _ ⟨hF,rfl⟩
  have b16:1≤Z16∧Z16≤108000000:=by omega
  have HZ16:=hD hz1;clear hz1 b15;obtain ⟨⟨l0,e0⟩,⟨l1,e1⟩,⟨l5,e5⟩,hsz,f0,f1,f5⟩:=hF.all;obtain ⟨y,hy⟩:=HT.out.s.cell (j:=16) hlt (by omega);have hf:=HT.out.s.frz (k*34+16);have lg:=HT.out.s.lt
  refine wp_seq_h fun K hK=>?_
  apply wp_region_lit
  repeat go_step
  refine hK.out _ _ ?_;clear hK K;refine wp_abw (fun t' W'=>FmN t' g S.length c k Z16∧StN w W' g hi k (k+1) S q g1 g2 false false) ⟨⟨by simp [hsz],by simp [f0],by simp [f1],by simp [f5]⟩,HT.out.put HGL.out 16 (by omega) (by omega) (by omega) _⟩ ?_;clear hF l0 l1 l5 e0 e1 e5 hsz f0 f1 f5 t hy hf lg y HT;rintro t W' ⟨hF,hT⟩;have HT:=hD hT;clear hT
  obtain ⟨⟨l0,e0⟩,⟨l1,e1⟩,⟨l5,e5⟩,hsz,f0,f1,f5⟩:=hF.all
  refine wp_seq_h fun K hK=>?_
  apply wp_region_lit
  repeat go_step
  obtain ⟨Z17,hz1⟩:∃ x,Z16+1=x:=⟨_,rfl⟩
  refine hK.out _ _ ?_;clear hK K;refine wp_abw (fun t' W1=>FmN t' g S.length c k Z17∧W1=W') ⟨⟨by simp [hsz],by simp [f0],by simp [hsz,hz1],by simp [f5]⟩,rfl⟩ ?_;clear hF l0 l1 l5 e0 e1 e5 hsz f0 f1 f5 t;rintro t _ ⟨hF,rfl⟩
  have b17:1≤Z17∧Z17≤111000000:=by omega
  have HZ17:=hD hz1;clear hz1 b16;obtain ⟨⟨l0,e0⟩,⟨l1,e1⟩,⟨l5,e5⟩,hsz,f0,f1,f5⟩:=hF.all;obtain ⟨y,hy⟩:=HT.out.s.cell (j:=17) hlt (by omega);have hf:=HT.out.s.frz (k*34+17);have lg:=HT.out.s.lt
  refine wp_seq_h fun K hK=>?_
  apply wp_region_lit
  repeat go_step
  refine hK.out _ _ ?_;clear hK K;refine wp_abw (fun t' W'=>FmN t' g S.length c k Z17∧StN w W' g hi k (k+1) S q g1 g2 false false) ⟨⟨by simp [hsz],by simp [f0],by simp [f1],by simp [f5]⟩,HT.out.put HGL.out 17 (by omega) (by omega) (by omega) _⟩ ?_;clear hF l0 l1 l5 e0 e1 e5 hsz f0 f1 f5 t hy hf lg y HT;rintro t W' ⟨hF,hT⟩;have HT:=hD hT;clear hT
  obtain ⟨⟨l0,e0⟩,⟨l1,e1⟩,⟨l5,e5⟩,hsz,f0,f1,f5⟩:=hF.all
  refine wp_seq_h fun K hK=>?_
  apply wp_region_lit
  repeat go_step
  obtain ⟨Z18,hz1⟩:∃ x,Z17+1=x:=⟨_,rfl⟩
  refine hK.out _ _ ?_;clear hK K;refine wp_abw (fun t' W1=>FmN t' g S.length c k Z18∧W1=W') ⟨⟨by simp [hsz],by simp [f0],by simp [hsz,hz1],by simp [f5]⟩,rfl⟩ ?_;clear hF l0 l1 l5 e0 e1 e5 hsz f0 f1 f5 t;rintro t _ ⟨hF,rfl⟩
  have b18:1≤Z18∧Z18≤114000000:=by omega
  have HZ18:=hD hz1;clear hz1 b17;obtain ⟨⟨l0,e0⟩,⟨l1,e1⟩,⟨l5,e5⟩,hsz,f0,f1,f5⟩:=hF.all;obtain ⟨y,hy⟩:=HT.out.s.cell (j:=18) hlt (by omega);have hf:=HT.out.s.frz (k*34+18);have lg:=HT.out.s.lt
  refine wp_seq_h fun K hK=>?_
  apply wp_region_lit
  repeat go_step
  refine hK.out _ _ ?_;clear hK K;refine wp_abw (fun t' W'=>FmN t' g S.length c k Z18∧StN w W' g hi k (k+1) S q g1 g2 false false) ⟨⟨by simp [hsz],by simp [f0],by simp [f1],by simp [f5]⟩,HT.out.put HGL.out 18 (by omega) (by omega) (by omega) _⟩ ?_;clear hF l0 l1 l5 e0 e1 e5 hsz f0 f1 f5 t hy hf lg y HT;rintro t W' ⟨hF,hT⟩;have HT:=hD hT;clear hT
  obtain ⟨⟨l0,e0⟩,⟨l1,e1⟩,⟨l5,e5⟩,hsz,f0,f1,f5⟩:=hF.all
  refine wp_seq_h fun K hK=>?_
  apply wp_region_lit
  repeat go_step
  obtain ⟨Z19,hz1⟩:∃ x,Z18+1=x:=⟨_,rfl⟩
  refine hK.out _ _ ?_;clear hK K;refine wp_abw (fun t' W1=>FmN t' g S.length c k Z19∧W1=W') ⟨⟨by simp [hsz],by simp [f0],by simp [hsz,hz1],by simp [f5]⟩,rfl⟩ ?_;clear hF l0 l1 l5 e0 e1 e5 hsz f0 f1 f5 t;rintro t _ ⟨hF,rfl⟩
  have b19:1≤Z19∧Z19≤117000000:=by omega
  have HZ19:=hD hz1;clear hz1 b18;obtain ⟨⟨l0,e0⟩,⟨l1,e1⟩,⟨l5,e5⟩,hsz,f0,f1,f5⟩:=hF.all;obtain ⟨y,hy⟩:=HT.out.s.cell (j:=19) hlt (by omega);have hf:=HT.out.s.frz (k*34+19);have lg:=HT.out.s.lt
  refine wp_seq_h fun K hK=>?_
  apply wp_region_lit
  repeat go_step
  refine hK.out _ _ ?_;clear hK K;refine wp_abw (fun t' W'=>FmN t' g S.length c k Z19∧StN w W' g hi k (k+1) S q g1 g2 false false) ⟨⟨by simp [hsz],by simp [f0],by simp [f1],by simp [f5]⟩,HT.out.put HGL.out 19 (by omega) (by omega) (by omega) _⟩ ?_;clear hF l0 l1 l5 e0 e1 e5 hsz f0 f1 f5 t hy hf lg y HT;rintro t W' ⟨hF,hT⟩;have HT:=hD hT;clear hT
  obtain ⟨⟨l0,e0⟩,⟨l1,e1⟩,⟨l5,e5⟩,hsz,f0,f1,f5⟩:=hF.all
  refine wp_seq_h fun K hK=>?_
  apply wp_region_lit
  repeat go_step
  obtain ⟨Z20,hz1⟩:∃ x,Z19+1=x:=⟨_,rfl⟩
  refine hK.out _ _ ?_;clear hK K;refine wp_abw (fun t' W1=>FmN t' g S.length c k Z20∧W1=W') ⟨⟨by simp [hsz],by simp [f0],by simp [hsz,hz1],by simp [f5]⟩,rfl⟩ ?_;clear hF l0 l1 l5 e0 e1 e5 hsz f0 f1 f5 t;rintro t _ ⟨hF,rfl⟩
  have b20:1≤Z20∧Z20≤120000000:=by omega
  have HZ20:=hD hz1;clear hz1 b19;obtain ⟨⟨l0,e0⟩,⟨l1,e1⟩,⟨l5,e5⟩,hsz,f0,f1,f5⟩:=hF.all;obtain ⟨y,hy⟩:=HT.out.s.cell (j:=20) hlt (by omega);have hf:=HT.out.s.frz (k*34+20);have lg:=HT.out.s.lt
  refine wp_seq_h fun K hK=>?_
  apply wp_region_lit
  repeat go_step
  refine hK.out _ _ ?_;clear hK K;refine wp_abw (fun t' W'=>FmN t' g S.length c k Z20∧StN w W' g hi k (k+1) S q g1 g2 false false) ⟨⟨by simp [hsz],by simp [f0],by simp [f1],by simp [f5]⟩,HT.out.put HGL.out 20 (by omega) (by omega) (by omega) _⟩ ?_;clear hF l0 l1 l5 e0 e1 e5 hsz f0 f1 f5 t hy hf lg y HT;rintro t W' ⟨hF,hT⟩;have HT:=hD hT;clear hT
  obtain ⟨⟨l0,e0⟩,⟨l1,e1⟩,⟨l5,e5⟩,hsz,f0,f1,f5⟩:=hF.all
  refine wp_seq_h fun K hK=>?_
  apply wp_region_lit
  repeat go_step
  obtain ⟨Z21,hz1⟩:∃ x,Z20+1=x:=⟨_,rfl⟩
  refine hK.out _ _ ?_;clear hK K;refine wp_abw (fun t' W1=>FmN t' g S.length c k Z21∧W1=W') ⟨⟨by simp [hsz],by simp [f0],by simp [hsz,hz1],by simp [f5]⟩,rfl⟩ ?_;clear hF l0 l1 l5 e0 e1 e5 hsz f0 f1 f5 t;rintro t _ ⟨hF,rfl⟩
  have b21:1≤Z21∧Z21≤123000000:=by omega
  have HZ21:=hD hz1;clear hz1 b20;obtain ⟨⟨l0,e0⟩,⟨l1,e1⟩,⟨l5,e5⟩,hsz,f0,f1,f5⟩:=hF.all;obtain ⟨y,hy⟩:=HT.out.s.cell (j:=21) hlt (by omega);have hf:=HT.out.s.frz (k*34+21);have lg:=HT.out.s.lt
  refine wp_seq_h fun K hK=>?_
  apply wp_region_lit
  repeat go_step
  refine hK.out _ _ ?_;clear hK K;refine wp_abw (fun t' W'=>FmN t' g S.length c k Z21∧StN w W' g hi k (k+1) S q g1 g2 false false) ⟨⟨by simp [hsz],by simp [f0],by simp [f1],by simp [f5]⟩,HT.out.put HGL.out 21 (by omega) (by omega) (by omega) _⟩ ?_;clear hF l0 l1 l5 e0 e1 e5 hsz f0 f1 f5 t hy hf lg y HT;rintro t W' ⟨hF,hT⟩;have HT:=hD hT;clear hT
  obtain ⟨⟨l0,e0⟩,⟨l1,e1⟩,⟨l5,e5⟩,hsz,f0,f1,f5⟩:=hF.all
  refine wp_seq_h fun K hK=>?_
  apply wp_region_lit
  repeat go_step
  obtain ⟨Z22,hz1⟩:∃ x,Z21+1=x:=⟨_,rfl⟩
  refine hK.out _ _ ?_;clear hK K;refine wp_abw (fun t' W1=>FmN t' g S.length c k Z22∧W1=W') ⟨⟨by simp [hsz],by simp [f0],by simp [hsz,hz1],by simp [f5]⟩,rfl⟩ ?_;clear hF l0 l1 l5 e0 e1 e5 hsz f0 f1 f5 t;rintro t _ ⟨hF,rfl⟩
  have b22:1≤Z22∧Z22≤126000000:=by omega
  have HZ22:=hD hz1;clear hz1 b21;obtain ⟨⟨l0,e0⟩,⟨l1,e1⟩,⟨l5,e5⟩,hsz,f0,f1,f5⟩:=hF.all;obtain ⟨y,hy⟩:=HT.out.s.cell (j:=22) hlt (by omega);have hf:=HT.out.s.frz (k*34+22);have lg:=HT.out.s.lt
  refine wp_seq_h fun K hK=>?_
  apply wp_region_lit
  repeat go_step
  refine hK.out _ _ ?_;clear hK K;refine wp_abw (fun t' W'=>FmN t' g S.length c k Z22∧StN w W' g hi k (k+1) S q g1 g2 false false) ⟨⟨by simp [hsz],by simp [f0],by simp [f1],by simp [f5]⟩,HT.out.put HGL.out 22 (by omega) (by omega) (by omega) _⟩ ?_;clear hF l0 l1 l5 e0 e1 e5 hsz f0 f1 f5 t hy hf lg y HT;rintro t W' ⟨hF,hT⟩;have HT:=hD hT;clear hT
  obtain ⟨⟨l0,e0⟩,⟨l1,e1⟩,⟨l5,e5⟩,hsz,f0,f1,f5⟩:=hF.all
  refine wp_seq_h fun K hK=>?_
  apply wp_region_lit
  repeat go_step
  obtain ⟨Z23,hz1⟩:∃ x,Z22+1=x:=⟨_,rfl⟩
  refine hK.out _ _ ?_;clear hK K;refine wp_abw (fun t' W1=>FmN t' g S.length c k Z23∧W1=W') ⟨⟨by simp [hsz],by simp [f0],by simp [hsz,hz1],by simp [f5]⟩,rfl⟩ ?_;clear hF l0 l1 l5 e0 e1 e5 hsz f0 f1 f5 t;rintro t _ ⟨hF,rfl⟩
  have b23:1≤Z23∧Z23≤129000000:=by omega
  have HZ23:=hD hz1;clear hz1 b22;obtain ⟨⟨l0,e0⟩,⟨l1,e1⟩,⟨l5,e5⟩,hsz,f0,f1,f5⟩:=hF.all;obtain ⟨y,hy⟩:=HT.out.s.cell (j:=23) hlt (by omega);have hf:=HT.out.s.frz (k*34+23);have lg:=HT.out.s.lt
  refine wp_seq_h fun K hK=>?_
  apply wp_region_lit
  repeat go_step
  refine hK.out _ _ ?_;clear hK K;refine wp_abw (fun t' W'=>FmN t' g S.length c k Z23∧StN w W' g hi k (k+1) S q g1 g2 false false) ⟨⟨by simp [hsz],by simp [f0],by simp [f1],by simp [f5]⟩,HT.out.put HGL.out 23 (by omega) (by omega) (by omega) _⟩ ?_;clear hF l0 l1 l5 e0 e1 e5 hsz f0 f1 f5 t hy hf lg y HT;rintro t W' ⟨hF,hT⟩;have HT:=hD hT;clear hT
  obtain ⟨⟨l0,e0⟩,⟨l1,e1⟩,⟨l5,e5⟩,hsz,f0,f1,f5⟩:=hF.all
  refine wp_seq_h fun K hK=>?_
  apply wp_region_lit
  repeat go_step
  obtain ⟨Z24,hz1⟩:∃ x,Z23+1=x:=⟨_,rfl⟩
  refine hK.out _ _ ?_;clear hK K;refine wp_abw (fun t' W1=>FmN t' g S.length c k Z24∧W1=W') ⟨⟨by simp [hsz],by simp [f0],by simp [hsz,hz1],by simp [f5]⟩,rfl⟩ ?_;clear hF l0 l1 l5 e0 e1 e5 hsz f0 f1 f5 t;rintro t _ ⟨hF,rfl⟩
  have b24:1≤Z24∧Z24≤132000000:=by omega
  have HZ24:=hD hz1;clear hz1 b23;obtain ⟨⟨l0,e0⟩,⟨l1,e1⟩,⟨l5,e5⟩,hsz,f0,f1,f5⟩:=hF.all;obtain ⟨y,hy⟩:=HT.out.s.cell (j:=24) hlt (by omega);have hf:=HT.out.s.frz (k*34+24);have lg:=HT.out.s.lt
  refine wp_seq_h fun K hK=>?_
  apply wp_region_lit
  repeat go_step
  refine hK.out _ _ ?_;clear hK K;refine wp_abw (fun t' W'=>FmN t' g S.length c k Z24∧StN w W' g hi k (k+1) S q g1 g2 false false) ⟨⟨by simp [hsz],by simp [f0],by simp [f1],by simp [f5]⟩,HT.out.put HGL.out 24 (by omega) (by omega) (by omega) _⟩ ?_;clear hF l0 l1 l5 e0 e1 e5 hsz f0 f1 f5 t hy hf lg y HT;rintro t W' ⟨hF,hT⟩;have HT:=hD hT;clear hT
  obtain ⟨⟨l0,e0⟩,⟨l1,e1⟩,⟨l5,e5⟩,hsz,f0,f1,f5⟩:=hF.all
  refine wp_seq_h fun K hK=>?_
  apply wp_region_lit
  repeat go_step
  obtain ⟨Z25,hz1⟩:∃ x,Z24+1=x:=⟨_,rfl⟩
  refine hK.out _ _ ?_;clear hK K;refine wp_abw (fun t' W1=>FmN t' g S.length c k Z25∧W1=W') ⟨⟨by simp [hsz],by simp [f0],by simp [hsz,hz1],by simp [f5]⟩,rfl⟩ ?_;clear hF l0 l1 l5 e0 e1 e5 hsz f0 f1 f5 t;rintro t _ ⟨hF,rfl⟩
  have b25:1≤Z25∧Z25≤135000000:=by omega
  have HZ25:=hD hz1;clear hz1 b24;obtain ⟨⟨l0,e0⟩,⟨l1,e1⟩,⟨l5,e5⟩,hsz,f0,f1,f5⟩:=hF.all;obtain ⟨y,hy⟩:=HT.out.s.cell (j:=25) hlt (by omega);have hf:=HT.out.s.frz (k*34+25);have lg:=HT.out.s.lt
  refine wp_seq_h fun K hK=>?_
  apply wp_region_lit
  repeat go_step
  refine hK.out _ _ ?_;clear hK K;refine wp_abw (fun t' W'=>FmN t' g S.length c k Z25∧StN w W' g hi k (k+1) S q g1 g2 false false) ⟨⟨by simp [hsz],by simp [f0],by simp [f1],by simp [f5]⟩,HT.out.put HGL.out 25 (by omega) (by omega) (by omega) _⟩ ?_;clear hF l0 l1 l5 e0 e1 e5 hsz f0 f1 f5 t hy hf lg y HT;rintro t W' ⟨hF,hT⟩;have HT:=hD hT;clear hT
  obtain ⟨⟨l0,e0⟩,⟨l1,e1⟩,⟨l5,e5⟩,hsz,f0,f1,f5⟩:=hF.all
  refine wp_seq_h fun K hK=>?_
  apply wp_region_lit
  repeat go_step
  obtain ⟨Z26,hz1⟩:∃ x,Z25+1=x:=⟨_,rfl⟩
  refine hK.out _ _ ?_;clear hK K;refine wp_abw (fun t' W1=>FmN t' g S.length c k Z26∧W1=W') ⟨⟨by simp [hsz],by simp [f0],by simp [hsz,hz1],by simp [f5]⟩,rfl⟩ ?_;clear hF l0 l1 l5 e0 e1 e5 hsz f0 f1 f5 t;rintro t _ ⟨hF,rfl⟩
  have b26:1≤Z26∧Z26≤138000000:=by omega
  have HZ26:=hD hz1;clear hz1 b25;obtain ⟨⟨l0,e0⟩,⟨l1,e1⟩,⟨l5,e5⟩,hsz,f0,f1,f5⟩:=hF.all;obtain ⟨y,hy⟩:=HT.out.s.cell (j:=26) hlt (by omega);have hf:=HT.out.s.frz (k*34+26);have lg:=HT.out.s.lt
  refine wp_seq_h fun K hK=>?_
  apply wp_region_lit
  repeat go_step
  refine hK.out _ _ ?_;clear hK K;refine wp_abw (fun t' W'=>FmN t' g S.length c k Z26∧StN w W' g hi k (k+1) S q g1 g2 false false) ⟨⟨by simp [hsz],by simp [f0],by simp [f1],by simp [f5]⟩,HT.out.put HGL.out 26 (by omega) (by omega) (by omega) _⟩ ?_;clear hF l0 l1 l5 e0 e1 e5 hsz f0 f1 f5 t hy hf lg y HT;rintro t W' ⟨hF,hT⟩;have HT:=hD hT;clear hT
  obtain ⟨⟨l0,e0⟩,⟨l1,e1⟩,⟨l5,e5⟩,hsz,f0,f1,f5⟩:=hF.all
  refine wp_seq_h fun K hK=>?_
  apply wp_region_lit
  repeat go_step
  obtain ⟨Z27,hz1⟩:∃ x,Z26+1=x:=⟨_,rfl⟩
  refine hK.out _ _ ?_;clear hK K;refine wp_abw (fun t' W1=>FmN t' g S.length c k Z27∧W1=W') ⟨⟨by simp [hsz],by simp [f0],by simp [hsz,hz1],by simp [f5]⟩,rfl⟩ ?_;clear hF l0 l1 l5 e0 e1 e5 hsz f0 f1 f5 t;rintro t _ ⟨hF,rfl⟩
  have b27:1≤Z27∧Z27≤141000000:=by omega
  have HZ27:=hD hz1;clear hz1 b26;obtain ⟨⟨l0,e0⟩,⟨l1,e1⟩,⟨l5,e5⟩,hsz,f0,f1,f5⟩:=hF.all;obtain ⟨y,hy⟩:=HT.out.s.cell (j:=27) hlt (by omega);have hf:=HT.out.s.frz (k*34+27);have lg:=HT.out.s.lt
  refine wp_seq_h fun K hK=>?_
  apply wp_region_lit
  repeat go_step
  refine hK.out _ _ ?_;clear hK K;refine wp_abw (fun t' W'=>FmN t' g S.length c k Z27∧StN w W' g hi k (k+1) S q g1 g2 false false) ⟨⟨by simp [hsz],by simp [f0],by simp [f1],by simp [f5]⟩,HT.out.put HGL.out 27 (by omega) (by omega) (by omega) _⟩ ?_;clear hF l0 l1 l5 e0 e1 e5 hsz f0 f1 f5 t hy hf lg y HT;rintro t W' ⟨hF,hT⟩;have HT:=hD hT;clear hT
  obtain ⟨⟨l0,e0⟩,⟨l1,e1⟩,⟨l5,e5⟩,hsz,f0,f1,f5⟩:=hF.all
  refine wp_seq_h fun K hK=>?_
  apply wp_region_lit
  repeat go_step
  obtain ⟨Z28,hz1⟩:∃ x,Z27+1=x:=⟨_,rfl⟩
  refine hK.out _ _ ?_;clear hK K;refine wp_abw (fun t' W1=>FmN t' g S.length c k Z28∧W1=W') ⟨⟨by simp [hsz],by simp [f0],by simp [hsz,hz1],by simp [f5]⟩,rfl⟩ ?_;clear hF l0 l1 l5 e0 e1 e5 hsz f0 f1 f5 t;rintro t _ ⟨hF,rfl⟩
  have b28:1≤Z28∧Z28≤144000000:=by omega
  have HZ28:=hD hz1;clear hz1 b27;obtain ⟨⟨l0,e0⟩,⟨l1,e1⟩,⟨l5,e5⟩,hsz,f0,f1,f5⟩:=hF.all;obtain ⟨y,hy⟩:=HT.out.s.cell (j:=28) hlt (by omega);have hf:=HT.out.s.frz (k*34+28);have lg:=HT.out.s.lt
  refine wp_seq_h fun K hK=>?_
  apply wp_region_lit
  repeat go_step
  refine hK.out _ _ ?_;clear hK K;refine wp_abw (fun t' W'=>FmN t' g S.length c k Z28∧StN w W' g hi k (k+1) S q g1 g2 false false) ⟨⟨by simp [hsz],by simp [f0],by simp [f1],by simp [f5]⟩,HT.out.put HGL.out 28 (by omega) (by omega) (by omega) _⟩ ?_;clear hF l0 l1 l5 e0 e1 e5 hsz f0 f1 f5 t hy hf lg y HT;rintro t W' ⟨hF,hT⟩;have HT:=hD hT;clear hT
  obtain ⟨⟨l0,e0⟩,⟨l1,e1⟩,⟨l5,e5⟩,hsz,f0,f1,f5⟩:=hF.all
  refine wp_seq_h fun K hK=>?_
  apply wp_region_lit
  repeat go_step
  obtain ⟨Z29,hz1⟩:∃ x,Z28+1=x:=⟨_,rfl⟩
  refine hK.out _ _ ?_;clear hK K;refine wp_abw (fun t' W1=>FmN t' g S.length c k Z29∧W1=W') ⟨⟨by simp [hsz],by simp [f0],by simp [hsz,hz1],by simp [f5]⟩,rfl⟩ ?_;clear hF l0 l1 l5 e0 e1 e5 hsz f0 f1 f5 t;rintro t _ ⟨hF,rfl⟩
  have b29:1≤Z29∧Z29≤147000000:=by omega
  have HZ29:=hD hz1;clear hz1 b28;obtain ⟨⟨l0,e0⟩,⟨l1,e1⟩,⟨l5,e5⟩,hsz,f0,f1,f5⟩:=hF.all;obtain ⟨y,hy⟩:=HT.out.s.cell (j:=29) hlt (by omega);have hf:=HT.out.s.frz (k*34+29);have lg:=HT.out.s.lt
  refine wp_seq_h fun K hK=>?_
  apply wp_region_lit
  repeat go_step
  refine hK.out _ _ ?_;clear hK K;refine wp_abw (fun t' W'=>FmN t' g S.length c k Z29∧StN w W' g hi k (k+1) S q g1 g2 false false) ⟨⟨by simp [hsz],by simp [f0],by simp [f1],by simp [f5]⟩,HT.out.put HGL.out 29 (by omega) (by omega) (by omega) _⟩ ?_;clear hF l0 l1 l5 e0 e1 e5 hsz f0 f1 f5 t hy hf lg y HT;rintro t W' ⟨hF,hT⟩;have HT:=hD hT;clear hT
  obtain ⟨⟨l0,e0⟩,⟨l1,e1⟩,⟨l5,e5⟩,hsz,f0,f1,f5⟩:=hF.all
  refine wp_seq_h fun K hK=>?_
  apply wp_region_lit
  repeat go_step
  obtain ⟨Z30,hz1⟩:∃ x,Z29+1=x:=⟨_,rfl⟩
  refine hK.out _ _ ?_;clear hK K;refine wp_abw (fun t' W1=>FmN t' g S.length c k Z30∧W1=W') ⟨⟨by simp [hsz],by simp [f0],by simp [hsz,hz1],by simp [f5]⟩,rfl⟩ ?_;clear hF l0 l1 l5 e0 e1 e5 hsz f0 f1 f5 t;rintro t _ ⟨hF,rfl⟩
  have b30:1≤Z30∧Z30≤150000000:=by omega
  have HZ30:=hD hz1;clear hz1 b29;obtain ⟨⟨l0,e0⟩,⟨l1,e1⟩,⟨l5,e5⟩,hsz,f0,f1,f5⟩:=hF.all;obtain ⟨y,hy⟩:=HT.out.s.cell (j:=30) hlt (by omega);have hf:=HT.out.s.frz (k*34+30);have lg:=HT.out.s.lt
  refine wp_seq_h fun K hK=>?_
  apply wp_region_lit
  repeat go_step
  refine hK.out _ _ ?_;clear hK K;refine wp_abw (fun t' W'=>FmN t' g S.length c k Z30∧StN w W' g hi k (k+1) S q g1 g2 false false) ⟨⟨by simp [hsz],by simp [f0],by simp [f1],by simp [f5]⟩,HT.out.put HGL.out 30 (by omega) (by omega) (by omega) _⟩ ?_;clear hF l0 l1 l5 e0 e1 e5 hsz f0 f1 f5 t hy hf lg y HT;rintro t W' ⟨hF,hT⟩;have HT:=hD hT;clear hT
  obtain ⟨⟨l0,e0⟩,⟨l1,e1⟩,⟨l5,e5⟩,hsz,f0,f1,f5⟩:=hF.all
  refine wp_seq_h fun K hK=>?_
  apply wp_region_lit
  repeat go_step
  obtain ⟨Z31,hz1⟩:∃ x,Z30+1=x:=⟨_,rfl⟩
  refine hK.out _ _ ?_;clear hK K;refine wp_abw (fun t' W1=>FmN t' g S.length c k Z31∧W1=W') ⟨⟨by simp [hsz],by simp [f0],by simp [hsz,hz1],by simp [f5]⟩,rfl⟩ ?_;clear hF l0 l1 l5 e0 e1 e5 hsz f0 f1 f5 t;rintro t _ ⟨hF,rfl⟩
  have b31:1≤Z31∧Z31≤153000000:=by omega
  have HZ31:=hD hz1;clear hz1 b30;obtain ⟨⟨l0,e0⟩,⟨l1,e1⟩,⟨l5,e5⟩,hsz,f0,f1,f5⟩:=hF.all;obtain ⟨y,hy⟩:=HT.out.s.cell (j:=31) hlt (by omega);have hf:=HT.out.s.frz (k*34+31);have lg:=HT.out.s.lt
  refine wp_seq_h fun K hK=>?_
  apply wp_region_lit
  repeat go_step
  refine hK.out _ _ ?_;clear hK K;refine wp_abw (fun t' W'=>FmN t' g S.length c k Z31∧StN w W' g hi k (k+1) S q g1 g2 false false) ⟨⟨by simp [hsz],by simp [f0],by simp [f1],by simp [f5]⟩,HT.out.put HGL.out 31 (by omega) (by omega) (by omega) _⟩ ?_;clear hF l0 l1 l5 e0 e1 e5 hsz f0 f1 f5 t hy hf lg y HT;rintro t W' ⟨hF,hT⟩;have HT:=hD hT;clear hT
  obtain ⟨⟨l0,e0⟩,⟨l1,e1⟩,⟨l5,e5⟩,hsz,f0,f1,f5⟩:=hF.all
  refine wp_seq_h fun K hK=>?_
  apply wp_region_lit
  repeat go_step
  obtain ⟨Z32,hz1⟩:∃ x,Z31+1=x:=⟨_,rfl⟩
  refine hK.out _ _ ?_;clear hK K;refine wp_abw (fun t' W1=>FmN t' g S.length c k Z32∧W1=W') ⟨⟨by simp [hsz],by simp [f0],by simp [hsz,hz1],by simp [f5]⟩,rfl⟩ ?_;clear hF l0 l1 l5 e0 e1 e5 hsz f0 f1 f5 t;rintro t _ ⟨hF,rfl⟩
  have b32:1≤Z32∧Z32≤156000000:=by omega
  have HZ32:=hD hz1;clear hz1 b31;obtain ⟨⟨l0,e0⟩,⟨l1,e1⟩,⟨l5,e5⟩,hsz,f0,f1,f5⟩:=hF.all;obtain ⟨y,hy⟩:=HT.out.s.cell (j:=32) hlt (by omega);have hf:=HT.out.s.frz (k*34+32);have lg:=HT.out.s.lt
  refine wp_seq_h fun K hK=>?_
  apply wp_region_lit
  repeat go_step
  refine hK.out _ _ ?_;clear hK K;refine wp_abw (fun t' W'=>FmN t' g S.length c k Z32∧StN w W' g hi k (k+1) S q g1 g2 false false) ⟨⟨by simp [hsz],by simp [f0],by simp [f1],by simp [f5]⟩,HT.out.put HGL.out 32 (by omega) (by omega) (by omega) _⟩ ?_;clear hF l0 l1 l5 e0 e1 e5 hsz f0 f1 f5 t hy hf lg y HT;rintro t W' ⟨hF,hT⟩;have HT:=hD hT;clear hT
  obtain ⟨⟨l0,e0⟩,⟨l1,e1⟩,⟨l5,e5⟩,hsz,f0,f1,f5⟩:=hF.all
  refine wp_seq_h fun K hK=>?_
  apply wp_region_lit
  repeat go_step
  obtain ⟨Z33,hz1⟩:∃ x,Z32+1=x:=⟨_,rfl⟩
  refine hK.out _ _ ?_;clear hK K;refine wp_abw (fun t' W1=>FmN t' g S.length c k Z33∧W1=W') ⟨⟨by simp [hsz],by simp [f0],by simp [hsz,hz1],by simp [f5]⟩,rfl⟩ ?_;clear hF l0 l1 l5 e0 e1 e5 hsz f0 f1 f5 t;rintro t _ ⟨hF,rfl⟩
  have b33:1≤Z33∧Z33≤159000000:=by omega
  have HZ33:=hD hz1;clear hz1 b32;obtain ⟨⟨l0,e0⟩,⟨l1,e1⟩,⟨l5,e5⟩,hsz,f0,f1,f5⟩:=hF.all;obtain ⟨y,hy⟩:=HT.out.s.cell (j:=33) hlt (by omega);have hf:=HT.out.s.frz (k*34+33);have lg:=HT.out.s.lt
  refine wp_seq_h fun K hK=>?_
  apply wp_region_lit
  repeat go_step
  refine hK.out _ _ ?_;clear hK K;refine wp_abw (fun t' W'=>FmN t' g S.length c k Z33∧StN w W' g hi k (k+1) S q g1 g2 false false) ⟨⟨by simp [hsz],by simp [f0],by simp [f1],by simp [f5]⟩,HT.out.put HGL.out 33 (by omega) (by omega) (by omega) _⟩ ?_;clear hF l0 l1 l5 e0 e1 e5 hsz f0 f1 f5 t hy hf lg y HT;rintro t W' ⟨hF,hT⟩;have HT:=hD hT;clear hT
  obtain ⟨⟨l0,e0⟩,⟨l1,e1⟩,⟨l5,e5⟩,hsz,f0,f1,f5⟩:=hF.all;apply wp_region_lit
  repeat go_step
  obtain ⟨Z34,hz1⟩:∃ x,Z33+1=x:=⟨_,rfl⟩
  try simp only [Exit.inBlock]
  refine hKB.out _ _ ?_;clear hKB KB;refine wp_abw (fun t' W1=>FmN t' g S.length c k Z34∧W1=W') ⟨⟨by simp [hsz],by simp [f0],by simp [hsz,hz1],by simp [f5]⟩,rfl⟩ ?_;clear hF l0 l1 l5 e0 e1 e5 hsz f0 f1 f5 t;rintro t _ ⟨hF,rfl⟩;have HZ34:=hD hz1;clear hz1;obtain ⟨⟨l0,e0⟩,⟨l1,e1⟩,⟨l5,e5⟩,hsz,f0,f1,f5⟩:=hF.all;apply wp_region_lit
  repeat go_step
  try simp only [Exit.then]
  refine ⟨⟨_,k+1,rfl,by omega,⟨by simp [hsz],by simp [f0],?_,by simp [hsz]⟩,HT.out.s,HT.out.l,HT.out.i⟩,?_⟩
  ·rw [HST.out]
   have:=HZ0.out
   have:=HMW.out
   have q1:=HZ1.out;have q2:=HZ2.out;have q3:=HZ3.out;have q4:=HZ4.out;have q5:=HZ5.out;have q6:=HZ6.out;have q7:=HZ7.out;have q8:=HZ8.out;have q9:=HZ9.out;have q10:=HZ10.out;have q11:=HZ11.out;have q12:=HZ12.out;have q13:=HZ13.out;have q14:=HZ14.out;have q15:=HZ15.out;have q16:=HZ16.out;have q17:=HZ17.out;have q18:=HZ18.out;have q19:=HZ19.out;have q20:=HZ20.out;have q21:=HZ21.out
   have q22:=HZ22.out;have q23:=HZ23.out;have q24:=HZ24.out;have q25:=HZ25.out;have q26:=HZ26.out;have q27:=HZ27.out;have q28:=HZ28.out;have q29:=HZ29.out;have q30:=HZ30.out;have q31:=HZ31.out;have q32:=HZ32.out;have q33:=HZ33.out;have q34:=HZ34.out
   have hv:Z34=z+(mkS (S.take k)+mkW q):=by unfold mkW at *;omega
   simp [f1,hv]
  ·simp [hsz,intOf]
   omega
 ·have hd:decide ((k:Int)<(S.length:Int))=false:=decide_eq_false (by omega)
  obtain rfl:k=S.length:=by omega
  rw [List.take_length] at hF;obtain ⟨⟨l0,e0⟩,⟨l1,e1⟩,⟨l5,e5⟩,hsz,f0,f1,f5⟩:=hF.all
  refine wp_seq_h fun K1 hK1=>?_
  refine wp_seq_h fun K hK=>?_
  apply wp_region_lit
  repeat go_step
  refine hK.out _ _ ?_;clear hK K;refine wp_cond_false (by simp [Act.eval,hsz]) ?_;apply wp_exit;simp only [Exit.then,Exit.inBlock,if_true];refine hKE.out _ _ ?_
  repeat go_step
  refine bodyPost_ret (results_tmp rfl _ _ _) rfl ?_;exact ⟨by simp [hsz],HW.out⟩
end
end Go.Proofs.YtenckjdiggaonaaGreat
