import Derived.Test.YtenckjdiggaonaaGreatQu03
import Derived.Deep.Cut
set_option linter.unusedVariables false
set_option linter.unusedSimpArgs false
set_option maxRecDepth 100000
set_option maxHeartbeats 16000000
namespace Go.Proofs.YtenckjdiggaonaaGreat
open Go.RowKit
attribute [local go_sem] growUpon_value growUpon_skip growUpon_enter
section
theorem svalidPlace_t (p:Plc) (t:Bool) (w:World) (h:plB p=t):Calls Tryz.prog 111 #[.agg #[.int .i64 p.x,.int .i64 p.y,.int .i64 p.rx,.int .i64 p.ry,.int .i64 p.ww,.int .i64 p.hh,.int .i64 p.qw,.int .i64 p.qh,.int .i64 p.an]] w fun e w'=>e=.returned (.bool t)∧Below w.heap.size w w':=by
 cases h1:rng p.x (-300) 300
 ·have ht:false=t:=by rw [<- h];simp [plB,shB,reB,h1]
  subst ht
  go_enter Tryz.func111,Tryz.ntmps111
  go_wp2_with fail
  with_reducible refine (inRange_q _ _ _ false _ h1).mono ?_
  rintro e w1 ⟨rfl,rfl⟩;go_wp2;go_ret;exact ⟨rfl,(by repeat (first | with_reducible exact Below.refl _ _ | with_reducible assumption | with_reducible refine balloc ?_ | (with_reducible refine bset ?_ ?_;rotate_left;((try dsimp only);omega)) | refine bkeep2 ?_ (by assumption) | with_reducible refine Below.drew ?_))⟩
 cases h2:rng p.y (-300) 300
 ·have ht:false=t:=by rw [<- h];simp [plB,shB,reB,h2]
  subst ht
  go_enter Tryz.func111,Tryz.ntmps111
  go_wp2_with fail
  with_reducible refine (inRange_q _ _ _ true _ h1).mono ?_
  rintro e w1 ⟨rfl,rfl⟩
  go_wp2_with fail
  with_reducible refine (inRange_q _ _ _ false _ h2).mono ?_
  rintro e w1 ⟨rfl,rfl⟩;go_wp2;go_ret;exact ⟨rfl,(by repeat (first | with_reducible exact Below.refl _ _ | with_reducible assumption | with_reducible refine balloc ?_ | (with_reducible refine bset ?_ ?_;rotate_left;((try dsimp only);omega)) | refine bkeep2 ?_ (by assumption) | with_reducible refine Below.drew ?_))⟩
 cases h3:rng p.rx 0 1000
 ·have ht:false=t:=by rw [<- h];simp [plB,shB,reB,h3]
  subst ht
  go_enter Tryz.func111,Tryz.ntmps111
  go_wp2_with fail
  with_reducible refine (inRange_q _ _ _ true _ h1).mono ?_
  rintro e w1 ⟨rfl,rfl⟩
  go_wp2_with fail
  with_reducible refine (inRange_q _ _ _ true _ h2).mono ?_
  rintro e w1 ⟨rfl,rfl⟩
  go_wp2_with fail
  with_reducible refine (inRange_q _ _ _ false _ h3).mono ?_
  rintro e w1 ⟨rfl,rfl⟩;go_wp2;go_ret;exact ⟨rfl,(by repeat (first | with_reducible exact Below.refl _ _ | with_reducible assumption | with_reducible refine balloc ?_ | (with_reducible refine bset ?_ ?_;rotate_left;((try dsimp only);omega)) | refine bkeep2 ?_ (by assumption) | with_reducible refine Below.drew ?_))⟩
 cases h4:rng p.ry 0 1000
 ·have ht:false=t:=by rw [<- h];simp [plB,shB,reB,h4]
  subst ht
  go_enter Tryz.func111,Tryz.ntmps111
  go_wp2_with fail
  with_reducible refine (inRange_q _ _ _ true _ h1).mono ?_
  rintro e w1 ⟨rfl,rfl⟩
  go_wp2_with fail
  with_reducible refine (inRange_q _ _ _ true _ h2).mono ?_
  rintro e w1 ⟨rfl,rfl⟩
  go_wp2_with fail
  with_reducible refine (inRange_q _ _ _ true _ h3).mono ?_
  rintro e w1 ⟨rfl,rfl⟩
  go_wp2_with fail
  with_reducible refine (inRange_q _ _ _ false _ h4).mono ?_
  rintro e w1 ⟨rfl,rfl⟩;go_wp2;go_ret;exact ⟨rfl,(by repeat (first | with_reducible exact Below.refl _ _ | with_reducible assumption | with_reducible refine balloc ?_ | (with_reducible refine bset ?_ ?_;rotate_left;((try dsimp only);omega)) | refine bkeep2 ?_ (by assumption) | with_reducible refine Below.drew ?_))⟩
 cases h5:rng p.ww (-300) 300
 ·have ht:false=t:=by rw [<- h];simp [plB,shB,reB,h5]
  subst ht
  go_enter Tryz.func111,Tryz.ntmps111
  go_wp2_with fail
  with_reducible refine (inRange_q _ _ _ true _ h1).mono ?_
  rintro e w1 ⟨rfl,rfl⟩
  go_wp2_with fail
  with_reducible refine (inRange_q _ _ _ true _ h2).mono ?_
  rintro e w1 ⟨rfl,rfl⟩
  go_wp2_with fail
  with_reducible refine (inRange_q _ _ _ true _ h3).mono ?_
  rintro e w1 ⟨rfl,rfl⟩
  go_wp2_with fail
  with_reducible refine (inRange_q _ _ _ true _ h4).mono ?_
  rintro e w1 ⟨rfl,rfl⟩
  go_wp2_with fail
  with_reducible refine (inRange_q _ _ _ false _ h5).mono ?_
  rintro e w1 ⟨rfl,rfl⟩;go_wp2;go_ret;exact ⟨rfl,(by repeat (first | with_reducible exact Below.refl _ _ | with_reducible assumption | with_reducible refine balloc ?_ | (with_reducible refine bset ?_ ?_;rotate_left;((try dsimp only);omega)) | refine bkeep2 ?_ (by assumption) | with_reducible refine Below.drew ?_))⟩
 cases h6:rng p.hh (-300) 300
 ·have ht:false=t:=by rw [<- h];simp [plB,shB,reB,h6]
  subst ht
  go_enter Tryz.func111,Tryz.ntmps111
  go_wp2_with fail
  with_reducible refine (inRange_q _ _ _ true _ h1).mono ?_
  rintro e w1 ⟨rfl,rfl⟩
  go_wp2_with fail
  with_reducible refine (inRange_q _ _ _ true _ h2).mono ?_
  rintro e w1 ⟨rfl,rfl⟩
  go_wp2_with fail
  with_reducible refine (inRange_q _ _ _ true _ h3).mono ?_
  rintro e w1 ⟨rfl,rfl⟩
  go_wp2_with fail
  with_reducible refine (inRange_q _ _ _ true _ h4).mono ?_
  rintro e w1 ⟨rfl,rfl⟩
  go_wp2_with fail
  with_reducible refine (inRange_q _ _ _ true _ h5).mono ?_
  rintro e w1 ⟨rfl,rfl⟩
  go_wp2_with fail
  with_reducible refine (inRange_q _ _ _ false _ h6).mono ?_
  rintro e w1 ⟨rfl,rfl⟩;go_wp2;go_ret;exact ⟨rfl,(by repeat (first | with_reducible exact Below.refl _ _ | with_reducible assumption | with_reducible refine balloc ?_ | (with_reducible refine bset ?_ ?_;rotate_left;((try dsimp only);omega)) | refine bkeep2 ?_ (by assumption) | with_reducible refine Below.drew ?_))⟩
 cases h7:rng p.qw 0 1000
 ·have ht:false=t:=by rw [<- h];simp [plB,shB,reB,h7]
  subst ht
  go_enter Tryz.func111,Tryz.ntmps111
  go_wp2_with fail
  with_reducible refine (inRange_q _ _ _ true _ h1).mono ?_
  rintro e w1 ⟨rfl,rfl⟩
  go_wp2_with fail
  with_reducible refine (inRange_q _ _ _ true _ h2).mono ?_
  rintro e w1 ⟨rfl,rfl⟩
  go_wp2_with fail
  with_reducible refine (inRange_q _ _ _ true _ h3).mono ?_
  rintro e w1 ⟨rfl,rfl⟩
  go_wp2_with fail
  with_reducible refine (inRange_q _ _ _ true _ h4).mono ?_
  rintro e w1 ⟨rfl,rfl⟩
  go_wp2_with fail
  with_reducible refine (inRange_q _ _ _ true _ h5).mono ?_
  rintro e w1 ⟨rfl,rfl⟩
  go_wp2_with fail
  with_reducible refine (inRange_q _ _ _ true _ h6).mono ?_
  rintro e w1 ⟨rfl,rfl⟩
  go_wp2_with fail
  with_reducible refine (inRange_q _ _ _ false _ h7).mono ?_
  rintro e w1 ⟨rfl,rfl⟩;go_wp2;go_ret;exact ⟨rfl,(by repeat (first | with_reducible exact Below.refl _ _ | with_reducible assumption | with_reducible refine balloc ?_ | (with_reducible refine bset ?_ ?_;rotate_left;((try dsimp only);omega)) | refine bkeep2 ?_ (by assumption) | with_reducible refine Below.drew ?_))⟩
 cases h8:rng p.qh 0 1000
 ·have ht:false=t:=by rw [<- h];simp [plB,shB,reB,h8]
  subst ht
  go_enter Tryz.func111,Tryz.ntmps111
  go_wp2_with fail
  with_reducible refine (inRange_q _ _ _ true _ h1).mono ?_
  rintro e w1 ⟨rfl,rfl⟩
  go_wp2_with fail
  with_reducible refine (inRange_q _ _ _ true _ h2).mono ?_
  rintro e w1 ⟨rfl,rfl⟩
  go_wp2_with fail
  with_reducible refine (inRange_q _ _ _ true _ h3).mono ?_
  rintro e w1 ⟨rfl,rfl⟩
  go_wp2_with fail
  with_reducible refine (inRange_q _ _ _ true _ h4).mono ?_
  rintro e w1 ⟨rfl,rfl⟩
  go_wp2_with fail
  with_reducible refine (inRange_q _ _ _ true _ h5).mono ?_
  rintro e w1 ⟨rfl,rfl⟩
  go_wp2_with fail
  with_reducible refine (inRange_q _ _ _ true _ h6).mono ?_
  rintro e w1 ⟨rfl,rfl⟩
  go_wp2_with fail
  with_reducible refine (inRange_q _ _ _ true _ h7).mono ?_
  rintro e w1 ⟨rfl,rfl⟩
  go_wp2_with fail
  with_reducible refine (inRange_q _ _ _ false _ h8).mono ?_
  rintro e w1 ⟨rfl,rfl⟩;go_wp2;go_ret;exact ⟨rfl,(by repeat (first | with_reducible exact Below.refl _ _ | with_reducible assumption | with_reducible refine balloc ?_ | (with_reducible refine bset ?_ ?_;rotate_left;((try dsimp only);omega)) | refine bkeep2 ?_ (by assumption) | with_reducible refine Below.drew ?_))⟩
 have h9:rng p.an 0 8=t:=by rw [<- h];simp [plB,shB,reB,h1,h2,h3,h4,h5,h6,h7,h8]
 go_enter Tryz.func111,Tryz.ntmps111
 go_wp2_with fail
 with_reducible refine (inRange_q _ _ _ true _ h1).mono ?_
 rintro e w1 ⟨rfl,rfl⟩
 go_wp2_with fail
 with_reducible refine (inRange_q _ _ _ true _ h2).mono ?_
 rintro e w1 ⟨rfl,rfl⟩
 go_wp2_with fail
 with_reducible refine (inRange_q _ _ _ true _ h3).mono ?_
 rintro e w1 ⟨rfl,rfl⟩
 go_wp2_with fail
 with_reducible refine (inRange_q _ _ _ true _ h4).mono ?_
 rintro e w1 ⟨rfl,rfl⟩
 go_wp2_with fail
 with_reducible refine (inRange_q _ _ _ true _ h5).mono ?_
 rintro e w1 ⟨rfl,rfl⟩
 go_wp2_with fail
 with_reducible refine (inRange_q _ _ _ true _ h6).mono ?_
 rintro e w1 ⟨rfl,rfl⟩
 go_wp2_with fail
 with_reducible refine (inRange_q _ _ _ true _ h7).mono ?_
 rintro e w1 ⟨rfl,rfl⟩
 go_wp2_with fail
 with_reducible refine (inRange_q _ _ _ true _ h8).mono ?_
 rintro e w1 ⟨rfl,rfl⟩
 go_wp2_with fail
 with_reducible refine (sanch_t _ t _ h9).mono ?_
 rintro e w1 ⟨rfl,rfl⟩;go_wp2;go_ret;exact ⟨rfl,(by repeat (first | with_reducible exact Below.refl _ _ | with_reducible assumption | with_reducible refine balloc ?_ | (with_reducible refine bset ?_ ?_;rotate_left;((try dsimp only);omega)) | refine bkeep2 ?_ (by assumption) | with_reducible refine Below.drew ?_))⟩
theorem toPlace_v (p:Plc) (w:World):Calls Tryz.prog 120 #[.agg #[.int .i64 p.x,.int .i64 p.y,.int .i64 p.rx,.int .i64 p.ry,.int .i64 p.ww,.int .i64 p.hh,.int .i64 p.qw,.int .i64 p.qh,.int .i64 p.an]] w fun e w'=>e=.returned (.agg #[.int .i64 p.x,.int .i64 p.y,.int .i64 p.rx,.int .i64 p.ry,.int .i64 p.ww,.int .i64 p.hh,.int .i64 p.qw,.int .i64 p.qh,.int .i64 p.an])∧Below w.heap.size w w':=by
 go_enter Tryz.func120,Tryz.ntmps120
 go_wp2
 exact bodyPost_ret (v:=.agg #[.int .i64 p.x,.int .i64 p.y,.int .i64 p.rx,.int .i64 p.ry,.int .i64 p.ww,.int .i64 p.hh,.int .i64 p.qw,.int .i64 p.qh,.int .i64 p.an]) (by simp only [results,Tryz.results120];go_simp) rfl ⟨rfl,(by repeat (first | with_reducible exact Below.refl _ _ | with_reducible assumption | with_reducible refine balloc ?_ | (with_reducible refine bset ?_ ?_;rotate_left;((try dsimp only);omega)) | refine bkeep2 ?_ (by assumption) | with_reducible refine Below.drew ?_))⟩
theorem eqPlace_same (p:Plc) (w:World):Calls Tryz.prog 137 #[.agg #[.int .i64 p.x,.int .i64 p.y,.int .i64 p.rx,.int .i64 p.ry,.int .i64 p.ww,.int .i64 p.hh,.int .i64 p.qw,.int .i64 p.qh,.int .i64 p.an],.agg #[.int .i64 p.x,.int .i64 p.y,.int .i64 p.rx,.int .i64 p.ry,.int .i64 p.ww,.int .i64 p.hh,.int .i64 p.qw,.int .i64 p.qh,.int .i64 p.an]] w fun e w'=>e=.returned (.bool true)∧Below w.heap.size w w':=by
 go_enter Tryz.func137,Tryz.ntmps137
 go_wp2;go_ret;exact ⟨rfl,(by repeat (first | with_reducible exact Below.refl _ _ | with_reducible assumption | with_reducible refine balloc ?_ | (with_reducible refine bset ?_ ?_;rotate_left;((try dsimp only);omega)) | refine bkeep2 ?_ (by assumption) | with_reducible refine Below.drew ?_))⟩
end
section
theorem wp_genGG {P:Program} {c:Code} {Q:Exit→Act→World→Prop} {a:Act} {W:World} (F:World→Prop) (hF:F W) (h:∀ W0,F W0→c.wp P Q a W0):c.wp P Q a W:=h W hF
theorem bp_genG {P:Program} {f:Func} {R:Ending→World→Prop} {e:Exit} {a:Act} {W:World} (F:World→Prop) (hF:F W) (h:∀ W0,F W0→bodyPost P f R e a W0):bodyPost P f R e a W:=h W hF
def GB (lo:Nat) (w:World) (v:Value) (L1 L2:List Ln) (L3:List Ce):Prop :=
 ∃ g1 g2 g3:Nat,v=.agg #[.slice (some ⟨g1,0,none⟩) L1.length L1.length,.slice (some ⟨g2,0,none⟩) L2.length L2.length,.slice (some ⟨g3,0,none⟩) L3.length L3.length]∧lo≤g1∧g1<g2∧g2<g3∧LnB w g1 L1∧LnB w g2 L2∧CeB w g3 L3
theorem GB.any {lo:Nat} {w:World} {v:Value} {L1 L2:List Ln} {L3:List Ce} (h:GB lo w v L1 L2 L3):GB 0 w v L1 L2 L3:=by
 obtain ⟨g1,g2,g3,e,a,b,c,k1,k2,k3⟩:=h;exact ⟨g1,g2,g3,e,by omega,b,c,k1,k2,k3⟩
theorem GB.keep {lo:Nat} {w w':World} {v:Value} {L1 L2:List Ln} {L3:List Ce} (h:GB lo w v L1 L2 L3) (hb:Below w.heap.size w w'):GB lo w' v L1 L2 L3:=by
 obtain ⟨g1,g2,g3,e,a,b,c,k1,k2,k3⟩:=h;exact ⟨g1,g2,g3,e,a,b,c,k1.keep hb,k2.keep hb,k3.keep hb⟩
end
section
def PreN (w:World) (z:Nat) (l:List Value):Prop:=∃ cs:Array Value,w.heap[z]?=some (.cells cs 84 (0,0))∧cs.size=34∧InS cs 0 l
theorem PreN.nil {w:World} {z:Nat} {cs:Array Value} (h:w.heap[z]?=some (.cells cs 84 (0,0))) (hs:cs.size=34):PreN w z []:=⟨cs,h,hs,fun j u hu=>by simp at hu⟩
theorem PreN.lt {w:World} {z:Nat} {l:List Value} (h:PreN w z l):z<w.heap.size:=by obtain ⟨cs,hh,_⟩:=h;exact ltS hh
theorem PreN.there {w:World} {z:Nat} {l:List Value} (h:PreN w z l) {o n:Nat} (hn:o+n≤34):w.there z o n:=by
 obtain ⟨cs,hh,hs,_⟩:=h;exact thereB hh (by omega)
theorem PreN.cell {w:World} {z:Nat} {l:List Value} (h:PreN w z l) {i:Nat} (hi:i<34):∃ v,w.cell? ⟨z,i,none⟩=some v:=by
 obtain ⟨cs,hh,hs,_⟩:=h;exact thereS hh (by omega)
theorem PreN.frz {w:World} {z:Nat} {l:List Value} (h:PreN w z l) (i:Nat):w.frozen? ⟨z,i,none⟩=false:=by
 obtain ⟨cs,hh,hs,_⟩:=h;exact frozenS hh i
theorem PreN.keep {w w':World} {z:Nat} {l:List Value} (h:PreN w z l) (hb:w'.heap[z]?=w.heap[z]?):PreN w' z l:=by
 obtain ⟨cs,hh,hs,hi⟩:=h;exact ⟨cs,hb.trans hh,hs,hi⟩
theorem InS_app {cs:Array Value} {l vs:List Value} (h:InS cs 0 l) (hs:l.length+vs.length≤cs.size):InS (wrAt cs l.length vs) 0 (l ++ vs):=fun j u hu=>by
 rw [Nat.zero_add]
 by_cases hj:j<l.length
 ·rw [List.getElem?_append_left hj] at hu;rw [wrAt_lo _ _ _ _ hj]
  have:=h j u hu
  rwa [Nat.zero_add] at this
 ·rw [List.getElem?_append_right (by omega)] at hu;have hl:=(List.getElem?_eq_some_iff.1 hu).1
  have:=wrAt_in vs cs l.length (j - l.length) hs hl
  rw [show l.length+(j - l.length)=j by omega] at this;rw [this,hu]
theorem PreN.more {w:World} {z:Nat} {l vs:List Value} (h:PreN w z l) (hn:l.length+vs.length≤34):PreN (w.setCells z l.length vs) z (l ++ vs):=by
 obtain ⟨cs,hh,hs,hi⟩:=h;exact ⟨_,heap_setCells vs l.length w cs hh,by rw [wrAt_size];exact hs,InS_app hi (by omega)⟩
theorem PreN.one {w:World} {z:Nat} {l:List Value} (h:PreN w z l) (k:Nat) (hk:k=l.length) (v:Value) (hn:k<34):PreN (w.setCell ⟨z,k,none⟩ v) z (l ++ [v]):=by
 subst hk;exact h.more (vs:=[v]) (by simp;omega)
theorem PreN.moreK {w:World} {z:Nat} {l:List Value} (h:PreN w z l) (k:Nat) (hk:k=l.length) (vs:List Value) (hn:k+vs.length≤34):PreN (w.setCells z k vs) z (l ++ vs):=by
 subst hk;exact h.more hn
theorem PreN.full {w:World} {z:Nat} {l:List Value} (h:PreN w z l) (hl:l.length=34):w.heap[z]?=some (.cells l.toArray 84 (0,0)):=by
 obtain ⟨cs,hh,hs,hi⟩:=h
 have e:cs=l.toArray:=by
  apply Array.ext
  ·simp [hs,hl]
  ·intro i h1 h2
   have:=hi i l[i] (List.getElem?_eq_getElem (by simpa using h2))
   rw [Nat.zero_add,Array.getElem?_eq_getElem h1] at this
   simpa using this
 rw [<- e];exact hh
theorem range_sub {w:World} {b o:Nat} {cs:List Value} (h:w.rangeAt b o cs) (A B C:List Value) (e:cs=A ++ (B ++ C)) (k:Nat) (hk:k=A.length):w.rangeAt b (o+k) B:=fun j v hj=>by
 subst hk;have hl:=(List.getElem?_eq_some_iff.1 hj).1;rw [Nat.add_assoc];exact h (A.length+j) v (by rw [e,List.getElem?_append_right (by omega),List.getElem?_append_left (by omega)];rw [show A.length+j - A.length=j by omega];exact hj)
theorem node_pk {w:World} {b o:Nat} {p:Nr} (h:w.rangeAt b o (valsNr p)):w.rangeAt b (o+7) [.int .i64 p.n.pk.w,.int .i64 p.n.pk.h,.int .i64 p.n.pk.s,.bool p.n.pk.fx,.bool p.n.pk.fy,.bool p.n.pk.ex,.int .i64 p.n.pk.an,.int .i64 p.n.pk.px,.int .i64 p.n.pk.py]:=range_sub h ((valsNr p).take 7) _ ((valsNr p).drop 16) rfl 7 rfl
theorem node_ce {w:World} {b o:Nat} {p:Nr} (h:w.rangeAt b o (valsNr p)):w.rangeAt b (o+16) [.int .i64 p.n.ce.co,.int .i64 p.n.ce.ro,.int .i64 p.n.ce.mc,.int .i64 p.n.ce.mr,.int .i64 p.n.ce.cw,.int .i64 p.n.ce.ch,.int .i64 p.n.ce.sk,.int .i64 p.n.ce.px,.int .i64 p.n.ce.py]:=range_sub h ((valsNr p).take 16) _ ((valsNr p).drop 25) rfl 16 rfl
theorem node_pl {w:World} {b o:Nat} {p:Nr} (h:w.rangeAt b o (valsNr p)):w.rangeAt b (o+25) [.int .i64 p.n.pl.x,.int .i64 p.n.pl.y,.int .i64 p.n.pl.rx,.int .i64 p.n.pl.ry,.int .i64 p.n.pl.ww,.int .i64 p.n.pl.hh,.int .i64 p.n.pl.qw,.int .i64 p.n.pl.qh,.int .i64 p.n.pl.an]:=range_sub h ((valsNr p).take 25) _ ((valsNr p).drop 34) rfl 25 rfl
theorem newS1T (w:World) (o o':Obj):((w.alloc o).alloc o').heap[w.heap.size+1]?=some o':=by have:=newS (w.alloc o) o';rwa [World.size_alloc] at this
theorem newS2T (w:World) (o o' o2:Obj):(((w.alloc o).alloc o').alloc o2).heap[w.heap.size+1+1]?=some o2:=by have:=newS ((w.alloc o).alloc o') o2;rwa [World.size_alloc,World.size_alloc] at this
theorem wrAt_all {cs:Array Value} {l:List Value} (h:cs.size=l.length):wrAt cs 0 l=l.toArray:=by
 apply Array.ext
 ·rw [wrAt_size];simp [h]
 ·intro i h1 h2
  have hi:i<l.length:=by simpa using h2
  have:=wrAt_in l cs 0 i (by omega) hi
  rw [Nat.zero_add,Array.getElem?_eq_getElem h1,List.getElem?_eq_getElem hi] at this
  simpa using this
def cpN (p:Nr) (g1 g2:Nat):Nr:=⟨p.n,some ⟨g1,0,none⟩,p.n.cs.length,some ⟨g2,0,none⟩,p.n.rs.length⟩
def CpN (lo:Nat) (w:World) (p q:Nr):Prop:=∃ g1 g2,q=cpN p g1 g2∧lo≤g1∧g1<g2∧LnB w g1 p.n.cs∧LnB w g2 p.n.rs
theorem CpN.keep {lo:Nat} {w w':World} {p q:Nr} (h:CpN lo w p q) (hb:Below w.heap.size w w'):CpN lo w' p q:=by
 obtain ⟨g1,g2,e,h1,h2,h3,h4⟩:=h;exact ⟨g1,g2,e,h1,h2,h3.keep hb,h4.keep hb⟩
theorem CpN.but {lo z:Nat} {w w':World} {p q:Nr} (h:CpN lo w p q) (hg:w.grownBy w' (some z)) (hz:z<lo):CpN lo w' p q:=by
 obtain ⟨g1,g2,e,h1,h2,h3,h4⟩:=h;exact ⟨g1,g2,e,h1,h2,h3.but hg (by omega),h4.but hg (by omega)⟩
theorem CpN.n {lo:Nat} {w:World} {p q:Nr} (h:CpN lo w p q):q.n=p.n:=by obtain ⟨g1,g2,rfl,_⟩:=h;rfl
theorem CpN.rd {lo:Nat} {w:World} {p q:Nr} (h:CpN lo w p q):RdN w q:=by
 obtain ⟨g1,g2,rfl,h1,h2,h3,h4⟩:=h;exact ⟨h3.v,Nat.le_refl _,h4.v,Nat.le_refl _⟩
theorem pk_oneN (p:Nr):∀ v ∈ ([.int .i64 p.n.pk.w,.int .i64 p.n.pk.h,.int .i64 p.n.pk.s,.bool p.n.pk.fx,.bool p.n.pk.fy,.bool p.n.pk.ex,.int .i64 p.n.pk.an,.int .i64 p.n.pk.px,.int .i64 p.n.pk.py]:List Value),v.oneCell'=true:=by intro v hv;simp only [List.mem_cons,List.not_mem_nil,or_false] at hv;rcases hv with rfl | rfl | rfl | rfl | rfl | rfl | rfl | rfl | rfl <;> rfl
theorem ce_oneN (p:Nr):∀ v ∈ ([.int .i64 p.n.ce.co,.int .i64 p.n.ce.ro,.int .i64 p.n.ce.mc,.int .i64 p.n.ce.mr,.int .i64 p.n.ce.cw,.int .i64 p.n.ce.ch,.int .i64 p.n.ce.sk,.int .i64 p.n.ce.px,.int .i64 p.n.ce.py]:List Value),v.oneCell'=true:=by intro v hv;simp only [List.mem_cons,List.not_mem_nil,or_false] at hv;rcases hv with rfl | rfl | rfl | rfl | rfl | rfl | rfl | rfl | rfl <;> rfl
theorem pl_oneN (p:Nr):∀ v ∈ ([.int .i64 p.n.pl.x,.int .i64 p.n.pl.y,.int .i64 p.n.pl.rx,.int .i64 p.n.pl.ry,.int .i64 p.n.pl.ww,.int .i64 p.n.pl.hh,.int .i64 p.n.pl.qw,.int .i64 p.n.pl.qh,.int .i64 p.n.pl.an]:List Value),v.oneCell'=true:=by intro v hv;simp only [List.mem_cons,List.not_mem_nil,or_false] at hv;rcases hv with rfl | rfl | rfl | rfl | rfl | rfl | rfl | rfl | rfl <;> rfl
theorem toNode_v (p:Nr) (w:World) (h:RdN w p) (k1:p.n.cs.length≤1048576) (k2:p.n.rs.length≤1048576) :
  Calls Tryz.prog 82 #[.agg (valsNr p).toArray] w fun e w'=>(∃ q,e=.returned (.agg (valsNr q).toArray)∧CpN w.heap.size w' p q)∧Below w.heap.size w w':=by
 have HRD:=hD h;clear h
 go_enter Tryz.func82,Tryz.ntmps82
 go_upto_region 2 with (fail)
 refine wp_genGG (fun W=>W.heap[w.heap.size]?=some (.cells (valsNr p).toArray 101 (0,0))∧(∃ cs:Array Value,W.heap[w.heap.size+1]?=some (.cells cs 84 (0,0))∧cs.size=34)∧PreN W (w.heap.size+1+1) []∧Below w.heap.size w W) ⟨(Below.heap_alloc _ _ w.heap.size (by simp;omega)).trans ((Below.heap_alloc _ _ w.heap.size (by simp)).trans (newS w _)),⟨_,(Below.heap_alloc _ _ (w.heap.size+1) (by simp)).trans (newS1T w _ _),rfl⟩,PreN.nil (newS2T w _ _ _) rfl,balloc (balloc (balloc (Below.refl _ _)))⟩ (fun W0 h0=>?_)
 obtain ⟨hx,h2,hz,hb⟩:=h0;have HX:=hD hx;have H2:=hD h2;have HZ:=hD hz;have HB:=hD hb;clear hx h2 hz hb;have s0:W0.cell? ⟨w.heap.size,0,none⟩=some (.int .i64 p.n.pa):=cellS HX.out 0;obtain ⟨y0,z0⟩:=HZ.out.cell (i:=0) (by omega);have f0:=HZ.out.frz 0;have lz:=HZ.out.lt
 go_upto_region 3 with (fail)
 refine wp_genGG (fun W=>W.heap[w.heap.size]?=some (.cells (valsNr p).toArray 101 (0,0))∧(∃ cs:Array Value,W.heap[w.heap.size+1]?=some (.cells cs 84 (0,0))∧cs.size=34)∧PreN W (w.heap.size+1+1) [.int .i64 p.n.pa]∧Below w.heap.size w W) ⟨(Below.heap_setCell _ _ _ w.heap.size (by simp;omega)).trans HX.out,(let ⟨cs,hc,hs⟩:=H2.out;⟨cs,(Below.heap_setCell _ _ _ (w.heap.size+1) (by simp)).trans hc,hs⟩),HZ.out.one 0 rfl _ (by omega),HB.out.setCell (p:=⟨w.heap.size+1+1,0,none⟩) (by simp;omega) _⟩ (fun W1 h0=>?_)
 clear HX H2 HZ HB s0 z0 f0 lz;obtain ⟨hx,h2,hz,hb⟩:=h0;have HX:=hD hx;have H2:=hD h2;have HZ:=hD hz;have HB:=hD hb;clear hx h2 hz hb;have s1:W1.cell? ⟨w.heap.size,1,none⟩=some (.int .i64 p.n.ww):=cellS HX.out 1;obtain ⟨y1,z1⟩:=HZ.out.cell (i:=1) (by omega);have f1:=HZ.out.frz 1;have lz:=HZ.out.lt
 go_upto_region 4 with (fail)
 refine wp_genGG (fun W=>W.heap[w.heap.size]?=some (.cells (valsNr p).toArray 101 (0,0))∧(∃ cs:Array Value,W.heap[w.heap.size+1]?=some (.cells cs 84 (0,0))∧cs.size=34)∧PreN W (w.heap.size+1+1) [.int .i64 p.n.pa,.int .i64 p.n.ww]∧Below w.heap.size w W) ⟨(Below.heap_setCell _ _ _ w.heap.size (by simp;omega)).trans HX.out,(let ⟨cs,hc,hs⟩:=H2.out;⟨cs,(Below.heap_setCell _ _ _ (w.heap.size+1) (by simp)).trans hc,hs⟩),HZ.out.one 1 rfl _ (by omega),HB.out.setCell (p:=⟨w.heap.size+1+1,1,none⟩) (by simp;omega) _⟩ (fun W2 h0=>?_)
 clear HX H2 HZ HB s1 z1 f1 lz;obtain ⟨hx,h2,hz,hb⟩:=h0;have HX:=hD hx;have H2:=hD h2;have HZ:=hD hz;have HB:=hD hb;clear hx h2 hz hb;have s2:W2.cell? ⟨w.heap.size,2,none⟩=some (.int .i64 p.n.hh):=cellS HX.out 2;obtain ⟨y2,z2⟩:=HZ.out.cell (i:=2) (by omega);have f2:=HZ.out.frz 2;have lz:=HZ.out.lt
 go_upto_region 5 with (fail)
 refine wp_genGG (fun W=>W.heap[w.heap.size]?=some (.cells (valsNr p).toArray 101 (0,0))∧(∃ cs:Array Value,W.heap[w.heap.size+1]?=some (.cells cs 84 (0,0))∧cs.size=34)∧PreN W (w.heap.size+1+1) [.int .i64 p.n.pa,.int .i64 p.n.ww,.int .i64 p.n.hh]∧Below w.heap.size w W) ⟨(Below.heap_setCell _ _ _ w.heap.size (by simp;omega)).trans HX.out,(let ⟨cs,hc,hs⟩:=H2.out;⟨cs,(Below.heap_setCell _ _ _ (w.heap.size+1) (by simp)).trans hc,hs⟩),HZ.out.one 2 rfl _ (by omega),HB.out.setCell (p:=⟨w.heap.size+1+1,2,none⟩) (by simp;omega) _⟩ (fun W3 h0=>?_)
 clear HX H2 HZ HB s2 z2 f2 lz;obtain ⟨hx,h2,hz,hb⟩:=h0;have HX:=hD hx;have H2:=hD h2;have HZ:=hD hz;have HB:=hD hb;clear hx h2 hz hb;have s3:W3.cell? ⟨w.heap.size,3,none⟩=some (.bool p.n.ke):=cellS HX.out 3;obtain ⟨y3,z3⟩:=HZ.out.cell (i:=3) (by omega);have f3:=HZ.out.frz 3;have lz:=HZ.out.lt
 go_upto_region 6 with (fail)
 refine wp_genGG (fun W=>W.heap[w.heap.size]?=some (.cells (valsNr p).toArray 101 (0,0))∧(∃ cs:Array Value,W.heap[w.heap.size+1]?=some (.cells cs 84 (0,0))∧cs.size=34)∧PreN W (w.heap.size+1+1) [.int .i64 p.n.pa,.int .i64 p.n.ww,.int .i64 p.n.hh,.bool p.n.ke]∧Below w.heap.size w W) ⟨(Below.heap_setCell _ _ _ w.heap.size (by simp;omega)).trans HX.out,(let ⟨cs,hc,hs⟩:=H2.out;⟨cs,(Below.heap_setCell _ _ _ (w.heap.size+1) (by simp)).trans hc,hs⟩),HZ.out.one 3 rfl _ (by omega),HB.out.setCell (p:=⟨w.heap.size+1+1,3,none⟩) (by simp;omega) _⟩ (fun W4 h0=>?_)
 clear HX H2 HZ HB s3 z3 f3 lz;obtain ⟨hx,h2,hz,hb⟩:=h0;have HX:=hD hx;have H2:=hD h2;have HZ:=hD hz;have HB:=hD hb;clear hx h2 hz hb;have s4:W4.cell? ⟨w.heap.size,4,none⟩=some (.int .i64 p.n.ki):=cellS HX.out 4;obtain ⟨y4,z4⟩:=HZ.out.cell (i:=4) (by omega);have f4:=HZ.out.frz 4;have lz:=HZ.out.lt
 go_upto_region 7 with (fail)
 refine wp_genGG (fun W=>W.heap[w.heap.size]?=some (.cells (valsNr p).toArray 101 (0,0))∧(∃ cs:Array Value,W.heap[w.heap.size+1]?=some (.cells cs 84 (0,0))∧cs.size=34)∧PreN W (w.heap.size+1+1) [.int .i64 p.n.pa,.int .i64 p.n.ww,.int .i64 p.n.hh,.bool p.n.ke,.int .i64 p.n.ki]∧Below w.heap.size w W) ⟨(Below.heap_setCell _ _ _ w.heap.size (by simp;omega)).trans HX.out,(let ⟨cs,hc,hs⟩:=H2.out;⟨cs,(Below.heap_setCell _ _ _ (w.heap.size+1) (by simp)).trans hc,hs⟩),HZ.out.one 4 rfl _ (by omega),HB.out.setCell (p:=⟨w.heap.size+1+1,4,none⟩) (by simp;omega) _⟩ (fun W5 h0=>?_)
 clear HX H2 HZ HB s4 z4 f4 lz;obtain ⟨hx,h2,hz,hb⟩:=h0;have HX:=hD hx;have H2:=hD h2;have HZ:=hD hz;have HB:=hD hb;clear hx h2 hz hb;have s5:W5.cell? ⟨w.heap.size,5,none⟩=some (.slice p.ca p.n.cs.length p.cc):=cellS HX.out 5;have lz:=HZ.out.lt
 go_wp2_with fail
 with_reducible refine (toLnS_any p.ca p.cc p.n.cs _ (HRD.out.c.keep HB.out) k1).mono ?_
 rintro e w6 ⟨rfl,hk,hb1⟩;replace HX:=hD ((hb1.block _ (ltS HX.out)).trans HX.out);replace H2:=hD (let ⟨cs,hc,hs⟩:=H2.out;show ∃ cs:Array Value,w6.heap[w.heap.size+1]?=some (Obj.cells cs 84 (0,0))∧cs.size=34 from ⟨cs,(hb1.block _ (ltS hc)).trans hc,hs⟩);replace HZ:=hD (HZ.out.keep (hb1.block _ HZ.out.lt));replace HB:=hD (bkeep2 HB.out hb1);have HKN:=hD hk;clear hk hb1 s5
 obtain ⟨y5,z5⟩:=HZ.out.cell (i:=5) (by omega);have f5:=HZ.out.frz 5;have lz2:=HZ.out.lt
 go_upto_region 8 with (fail)
 refine wp_genGG (fun W=>W.heap[w.heap.size]?=some (.cells (valsNr p).toArray 101 (0,0))∧(∃ cs:Array Value,W.heap[w.heap.size+1]?=some (.cells cs 84 (0,0))∧cs.size=34)∧PreN W (w.heap.size+1+1) [.int .i64 p.n.pa,.int .i64 p.n.ww,.int .i64 p.n.hh,.bool p.n.ke,.int .i64 p.n.ki,.slice (some ⟨W5.heap.size,0,none⟩) p.n.cs.length p.n.cs.length]∧Below w.heap.size w W∧LnB W W5.heap.size p.n.cs) ⟨(Below.heap_setCell _ _ _ w.heap.size (by simp;omega)).trans HX.out,(let ⟨cs,hc,hs⟩:=H2.out;⟨cs,(Below.heap_setCell _ _ _ (w.heap.size+1) (by simp)).trans hc,hs⟩),HZ.out.one 5 rfl _ (by omega),HB.out.setCell (p:=⟨w.heap.size+1+1,5,none⟩) (by simp;omega) _,HKN.out.but (gsetS (greflS _ (w.heap.size+1+1)) 5 _) (by omega)⟩ (fun W7 h0=>?_)
 have LK0:=hD (show w.heap.size+1+1<W5.heap.size by omega);clear HX H2 HZ HB HKN z5 f5 lz lz2;obtain ⟨hx,h2,hz,hb,hk0⟩:=h0;have HX:=hD hx;have H2:=hD h2;have HZ:=hD hz;have HB:=hD hb;have HK0:=hD hk0;clear hx h2 hz hb hk0;have lk0:=HK0.out.lt;have LKS0:=hD lk0;clear lk0;have s6:W7.cell? ⟨w.heap.size,6,none⟩=some (.slice p.ra p.n.rs.length p.rc):=cellS HX.out 6;have lz:=HZ.out.lt
 go_wp2_with fail
 with_reducible refine (toLnS_any p.ra p.rc p.n.rs _ (HRD.out.r.keep HB.out) k2).mono ?_
 rintro e w8 ⟨rfl,hk,hb1⟩;replace HX:=hD ((hb1.block _ (ltS HX.out)).trans HX.out);replace H2:=hD (let ⟨cs,hc,hs⟩:=H2.out;show ∃ cs:Array Value,w8.heap[w.heap.size+1]?=some (Obj.cells cs 84 (0,0))∧cs.size=34 from ⟨cs,(hb1.block _ (ltS hc)).trans hc,hs⟩);replace HZ:=hD (HZ.out.keep (hb1.block _ HZ.out.lt));replace HK0:=hD (HK0.out.keep hb1);replace HB:=hD (bkeep2 HB.out hb1);have HKN:=hD hk
 clear hk hb1 s6;obtain ⟨y6,z6⟩:=HZ.out.cell (i:=6) (by omega);have f6:=HZ.out.frz 6;have lz2:=HZ.out.lt
 go_upto_region 9 with (fail)
 have lk0:=LK0.out
 refine wp_genGG (fun W=>W.heap[w.heap.size]?=some (.cells (valsNr p).toArray 101 (0,0))∧(∃ cs:Array Value,W.heap[w.heap.size+1]?=some (.cells cs 84 (0,0))∧cs.size=34)∧PreN W (w.heap.size+1+1) [.int .i64 p.n.pa,.int .i64 p.n.ww,.int .i64 p.n.hh,.bool p.n.ke,.int .i64 p.n.ki,.slice (some ⟨W5.heap.size,0,none⟩) p.n.cs.length p.n.cs.length,.slice (some ⟨W7.heap.size,0,none⟩) p.n.rs.length p.n.rs.length]∧Below w.heap.size w W∧LnB W W5.heap.size p.n.cs∧LnB W W7.heap.size p.n.rs) ⟨(Below.heap_setCell _ _ _ w.heap.size (by simp;omega)).trans HX.out,(let ⟨cs,hc,hs⟩:=H2.out;⟨cs,(Below.heap_setCell _ _ _ (w.heap.size+1) (by simp)).trans hc,hs⟩),HZ.out.one 6 rfl _ (by omega),HB.out.setCell (p:=⟨w.heap.size+1+1,6,none⟩) (by simp;omega) _,HK0.out.but (gsetS (greflS _ (w.heap.size+1+1)) 6 _) (by omega),HKN.out.but (gsetS (greflS _ (w.heap.size+1+1)) 6 _) (by omega)⟩ (fun W9 h0=>?_)
 have LK1:=hD (show w.heap.size+1+1<W7.heap.size by omega);clear HX H2 HZ HB HKN HK0 z6 f6 lz lz2 lk0;obtain ⟨hx,h2,hz,hb,hk0,hk1⟩:=h0;have HX:=hD hx;have H2:=hD h2;have HZ:=hD hz;have HB:=hD hb;have HK0:=hD hk0;have HK1:=hD hk1;clear hx h2 hz hb hk0 hk1;have lk1:=HK1.out.lt;have LKS1:=hD lk1;clear lk1;have hr:=node_pk (nodeAt HX.out);simp only [Nat.zero_add] at hr;have HR:=hD hr
 have lz:=HZ.out.lt;clear hr
 go_wp2_with (refine wpList_load_mid rfl 97 _ rfl w.heap.size 7 rfl [.int .i64 p.n.pk.w,.int .i64 p.n.pk.h,.int .i64 p.n.pk.s,.bool p.n.pk.fx,.bool p.n.pk.fy,.bool p.n.pk.ex,.int .i64 p.n.pk.an,.int .i64 p.n.pk.px,.int .i64 p.n.pk.py] _ HR.out Tryz.underlying97 rfl (by kernel_rfl) ?_)
 with_reducible refine (toPack_any _ _ _ _ _ _ _ _ _ _).mono ?_
 rintro e w10 ⟨rfl,hb1⟩;replace HX:=hD ((hb1.block _ (ltS HX.out)).trans HX.out);replace H2:=hD (let ⟨cs,hc,hs⟩:=H2.out;show ∃ cs:Array Value,w10.heap[w.heap.size+1]?=some (Obj.cells cs 84 (0,0))∧cs.size=34 from ⟨cs,(hb1.block _ (ltS hc)).trans hc,hs⟩);replace HZ:=hD (HZ.out.keep (hb1.block _ HZ.out.lt));replace HK0:=hD (HK0.out.keep hb1);replace HK1:=hD (HK1.out.keep hb1)
 replace HB:=hD (bkeep2 HB.out hb1);clear hb1 HR
 go_upto_region 10 with (refine wpList_store_mid rfl 78 _ _ rfl (w.heap.size+1+1) 7 #[.int .i64 p.n.pk.w,.int .i64 p.n.pk.h,.int .i64 p.n.pk.s,.bool p.n.pk.fx,.bool p.n.pk.fy,.bool p.n.pk.ex,.int .i64 p.n.pk.an,.int .i64 p.n.pk.px,.int .i64 p.n.pk.py] rfl rfl (HZ.out.there (by simp)) (by kernel_rfl) (all_oneCell_toArray (pk_oneN p)) ?_)
 refine wp_genGG (fun W=>W.heap[w.heap.size]?=some (.cells (valsNr p).toArray 101 (0,0))∧(∃ cs:Array Value,W.heap[w.heap.size+1]?=some (.cells cs 84 (0,0))∧cs.size=34)∧PreN W (w.heap.size+1+1) [.int .i64 p.n.pa,.int .i64 p.n.ww,.int .i64 p.n.hh,.bool p.n.ke,.int .i64 p.n.ki,.slice (some ⟨W5.heap.size,0,none⟩) p.n.cs.length p.n.cs.length,.slice (some ⟨W7.heap.size,0,none⟩) p.n.rs.length p.n.rs.length,.int .i64 p.n.pk.w,.int .i64 p.n.pk.h,.int .i64 p.n.pk.s,.bool p.n.pk.fx,.bool p.n.pk.fy,.bool p.n.pk.ex,.int .i64 p.n.pk.an,.int .i64 p.n.pk.px,.int .i64 p.n.pk.py]∧Below w.heap.size w W∧LnB W W5.heap.size p.n.cs∧LnB W W7.heap.size p.n.rs) ⟨(heap_setCells_ne (by omega) _ _ _).trans HX.out,(let ⟨cs,hc,hs⟩:=H2.out;⟨cs,(heap_setCells_ne (by omega) _ _ _).trans hc,hs⟩),HZ.out.moreK 7 rfl _ (by simp),below_setCells (by omega) _ _ _ HB.out,HK0.out.but (grown_setCells _ _ _ (greflS _ (w.heap.size+1+1))) (by have:=LK0.out;omega),HK1.out.but (grown_setCells _ _ _ (greflS _ (w.heap.size+1+1))) (by have:=LK1.out;omega)⟩ (fun W11 h0=>?_)
 clear HX H2 HZ HB HK0 HK1 lz;obtain ⟨hx,h2,hz,hb,hk0,hk1⟩:=h0;have HX:=hD hx;have H2:=hD h2;have HZ:=hD hz;have HB:=hD hb;have HK0:=hD hk0;have HK1:=hD hk1;clear hx h2 hz hb hk0 hk1;have hr:=node_ce (nodeAt HX.out);simp only [Nat.zero_add] at hr;have HR:=hD hr;have lz:=HZ.out.lt;clear hr
 go_wp2_with (refine wpList_load_mid rfl 98 _ rfl w.heap.size 16 rfl [.int .i64 p.n.ce.co,.int .i64 p.n.ce.ro,.int .i64 p.n.ce.mc,.int .i64 p.n.ce.mr,.int .i64 p.n.ce.cw,.int .i64 p.n.ce.ch,.int .i64 p.n.ce.sk,.int .i64 p.n.ce.px,.int .i64 p.n.ce.py] _ HR.out Tryz.underlying98 rfl (by kernel_rfl) ?_)
 with_reducible refine (toCe_v p.n.ce _).mono ?_
 rintro e w12 ⟨rfl,hb1⟩;replace HX:=hD ((hb1.block _ (ltS HX.out)).trans HX.out);replace H2:=hD (let ⟨cs,hc,hs⟩:=H2.out;show ∃ cs:Array Value,w12.heap[w.heap.size+1]?=some (Obj.cells cs 84 (0,0))∧cs.size=34 from ⟨cs,(hb1.block _ (ltS hc)).trans hc,hs⟩);replace HZ:=hD (HZ.out.keep (hb1.block _ HZ.out.lt));replace HK0:=hD (HK0.out.keep hb1);replace HK1:=hD (HK1.out.keep hb1)
 replace HB:=hD (bkeep2 HB.out hb1);clear hb1 HR
 go_upto_region 11 with (refine wpList_store_mid rfl 80 _ _ rfl (w.heap.size+1+1) 16 #[.int .i64 p.n.ce.co,.int .i64 p.n.ce.ro,.int .i64 p.n.ce.mc,.int .i64 p.n.ce.mr,.int .i64 p.n.ce.cw,.int .i64 p.n.ce.ch,.int .i64 p.n.ce.sk,.int .i64 p.n.ce.px,.int .i64 p.n.ce.py] rfl rfl (HZ.out.there (by simp)) (by kernel_rfl) (all_oneCell_toArray (ce_oneN p)) ?_)
 refine wp_genGG (fun W=>W.heap[w.heap.size]?=some (.cells (valsNr p).toArray 101 (0,0))∧(∃ cs:Array Value,W.heap[w.heap.size+1]?=some (.cells cs 84 (0,0))∧cs.size=34)∧PreN W (w.heap.size+1+1) [.int .i64 p.n.pa,.int .i64 p.n.ww,.int .i64 p.n.hh,.bool p.n.ke,.int .i64 p.n.ki,.slice (some ⟨W5.heap.size,0,none⟩) p.n.cs.length p.n.cs.length,.slice (some ⟨W7.heap.size,0,none⟩) p.n.rs.length p.n.rs.length,.int .i64 p.n.pk.w,.int .i64 p.n.pk.h,.int .i64 p.n.pk.s,.bool p.n.pk.fx,.bool p.n.pk.fy,.bool p.n.pk.ex,.int .i64 p.n.pk.an,.int .i64 p.n.pk.px,.int .i64 p.n.pk.py,.int .i64 p.n.ce.co,.int .i64 p.n.ce.ro,.int .i64 p.n.ce.mc,.int .i64 p.n.ce.mr,.int .i64 p.n.ce.cw,.int .i64 p.n.ce.ch,.int .i64 p.n.ce.sk,.int .i64 p.n.ce.px,.int .i64 p.n.ce.py]∧Below w.heap.size w W∧LnB W W5.heap.size p.n.cs∧LnB W W7.heap.size p.n.rs) ⟨(heap_setCells_ne (by omega) _ _ _).trans HX.out,(let ⟨cs,hc,hs⟩:=H2.out;⟨cs,(heap_setCells_ne (by omega) _ _ _).trans hc,hs⟩),HZ.out.moreK 16 rfl _ (by simp),below_setCells (by omega) _ _ _ HB.out,HK0.out.but (grown_setCells _ _ _ (greflS _ (w.heap.size+1+1))) (by have:=LK0.out;omega),HK1.out.but (grown_setCells _ _ _ (greflS _ (w.heap.size+1+1))) (by have:=LK1.out;omega)⟩ (fun W13 h0=>?_)
 clear HX H2 HZ HB HK0 HK1 lz;obtain ⟨hx,h2,hz,hb,hk0,hk1⟩:=h0;have HX:=hD hx;have H2:=hD h2;have HZ:=hD hz;have HB:=hD hb;have HK0:=hD hk0;have HK1:=hD hk1;clear hx h2 hz hb hk0 hk1;have hr:=node_pl (nodeAt HX.out);simp only [Nat.zero_add] at hr;have HR:=hD hr;have lz:=HZ.out.lt;clear hr
 go_wp2_with (refine wpList_load_mid rfl 99 _ rfl w.heap.size 25 rfl [.int .i64 p.n.pl.x,.int .i64 p.n.pl.y,.int .i64 p.n.pl.rx,.int .i64 p.n.pl.ry,.int .i64 p.n.pl.ww,.int .i64 p.n.pl.hh,.int .i64 p.n.pl.qw,.int .i64 p.n.pl.qh,.int .i64 p.n.pl.an] _ HR.out Tryz.underlying99 rfl (by kernel_rfl) ?_)
 with_reducible refine (toPlace_v p.n.pl _).mono ?_
 rintro e w14 ⟨rfl,hb1⟩;replace HX:=hD ((hb1.block _ (ltS HX.out)).trans HX.out);replace H2:=hD (let ⟨cs,hc,hs⟩:=H2.out;show ∃ cs:Array Value,w14.heap[w.heap.size+1]?=some (Obj.cells cs 84 (0,0))∧cs.size=34 from ⟨cs,(hb1.block _ (ltS hc)).trans hc,hs⟩);replace HZ:=hD (HZ.out.keep (hb1.block _ HZ.out.lt));replace HK0:=hD (HK0.out.keep hb1);replace HK1:=hD (HK1.out.keep hb1)
 replace HB:=hD (bkeep2 HB.out hb1);clear hb1 HR
 go_upto_region 12 with (refine wpList_store_mid rfl 82 _ _ rfl (w.heap.size+1+1) 25 #[.int .i64 p.n.pl.x,.int .i64 p.n.pl.y,.int .i64 p.n.pl.rx,.int .i64 p.n.pl.ry,.int .i64 p.n.pl.ww,.int .i64 p.n.pl.hh,.int .i64 p.n.pl.qw,.int .i64 p.n.pl.qh,.int .i64 p.n.pl.an] rfl rfl (HZ.out.there (by simp)) (by kernel_rfl) (all_oneCell_toArray (pl_oneN p)) ?_)
 refine wp_genGG (fun W=>W.heap[w.heap.size]?=some (.cells (valsNr p).toArray 101 (0,0))∧(∃ cs:Array Value,W.heap[w.heap.size+1]?=some (.cells cs 84 (0,0))∧cs.size=34)∧PreN W (w.heap.size+1+1) [.int .i64 p.n.pa,.int .i64 p.n.ww,.int .i64 p.n.hh,.bool p.n.ke,.int .i64 p.n.ki,.slice (some ⟨W5.heap.size,0,none⟩) p.n.cs.length p.n.cs.length,.slice (some ⟨W7.heap.size,0,none⟩) p.n.rs.length p.n.rs.length,.int .i64 p.n.pk.w,.int .i64 p.n.pk.h,.int .i64 p.n.pk.s,.bool p.n.pk.fx,.bool p.n.pk.fy,.bool p.n.pk.ex,.int .i64 p.n.pk.an,.int .i64 p.n.pk.px,.int .i64 p.n.pk.py,.int .i64 p.n.ce.co,.int .i64 p.n.ce.ro,.int .i64 p.n.ce.mc,.int .i64 p.n.ce.mr,.int .i64 p.n.ce.cw,.int .i64 p.n.ce.ch,.int .i64 p.n.ce.sk,.int .i64 p.n.ce.px,.int .i64 p.n.ce.py,.int .i64 p.n.pl.x,.int .i64 p.n.pl.y,.int .i64 p.n.pl.rx,.int .i64 p.n.pl.ry,.int .i64 p.n.pl.ww,.int .i64 p.n.pl.hh,.int .i64 p.n.pl.qw,.int .i64 p.n.pl.qh,.int .i64 p.n.pl.an]∧Below w.heap.size w W∧LnB W W5.heap.size p.n.cs∧LnB W W7.heap.size p.n.rs) ⟨(heap_setCells_ne (by omega) _ _ _).trans HX.out,(let ⟨cs,hc,hs⟩:=H2.out;⟨cs,(heap_setCells_ne (by omega) _ _ _).trans hc,hs⟩),HZ.out.moreK 25 rfl _ (by simp),below_setCells (by omega) _ _ _ HB.out,HK0.out.but (grown_setCells _ _ _ (greflS _ (w.heap.size+1+1))) (by have:=LK0.out;omega),HK1.out.but (grown_setCells _ _ _ (greflS _ (w.heap.size+1+1))) (by have:=LK1.out;omega)⟩ (fun W15 h0=>?_)
 clear HX H2 HZ HB HK0 HK1 lz;obtain ⟨hx,h2,hz,hb,hk0,hk1⟩:=h0;have HX:=hD hx;have H2:=hD h2;have HZ:=hD hz;have HB:=hD hb;have HK0:=hD hk0;have HK1:=hD hk1;clear hx h2 hz hb hk0 hk1;have hq:W15.heap[w.heap.size+1+1]?=some (.cells (valsNr (cpN p W5.heap.size W7.heap.size)).toArray 84 (0,0)):=HZ.out.full rfl;obtain ⟨c2,hc2,hs2⟩:=H2.out;have HQ:=hD hq;have HC2:=hD hc2;have HS2:=hD hs2
 clear hq hc2 hs2 H2
 go_wp2_with (first | (refine ldN _ (cpN p W5.heap.size W7.heap.size) (w.heap.size+1+1) 0 rfl rfl rfl (nodeAt HQ.out) ?_) | (refine stN _ _ (cpN p W5.heap.size W7.heap.size) (w.heap.size+1) 0 rfl rfl rfl rfl HC2.out (by rw [HS2.out];omega) ?_))
 have hend:=heap_setCells (valsNr (cpN p W5.heap.size W7.heap.size)) 0 _ _ HC2.out;have hfull:wrAt c2 0 (valsNr (cpN p W5.heap.size W7.heap.size))=(valsNr (cpN p W5.heap.size W7.heap.size)).toArray:=wrAt_all (by rw [HS2.out];rfl);rw [hfull] at hend;have HE:=hD hend;clear hend hfull
 refine bp_genG (fun W=>W.heap[w.heap.size+1]?=some (.cells (valsNr (cpN p W5.heap.size W7.heap.size)).toArray 84 (0,0))∧Below w.heap.size w W∧CpN w.heap.size W p (cpN p W5.heap.size W7.heap.size)) ⟨HE.out,below_setCells (by omega) _ _ _ HB.out,⟨_,_,rfl,by have:=LK0.out;omega,by have:=LKS0.out;have:=LK1.out;omega,HK0.out.but (grown_setCells _ _ _ (greflS _ (w.heap.size+1))) (by have:=LK0.out;omega),HK1.out.but (grown_setCells _ _ _ (greflS _ (w.heap.size+1))) (by have:=LK1.out;omega)⟩⟩ ?_
 rintro W ⟨hq,hb,hcp⟩;exact bodyPost_ret (results_cell_row rfl _ _ (w.heap.size+1) _ _ _ _ rfl hq Tryz.underlying84 rfl (by kernel_rfl)) rfl ⟨⟨_,rfl,hcp⟩,hb⟩
theorem madeNr:∃ f:Nat→Array Value,(∀ n,(f n).size=n*34)∧∀ (n:Nat) (w:World),n≤1048576→(Instr.makeSlice 28 (.int .i64 (n:Int)) (.int .i64 (n:Int))).run Tryz.prog w=.ok (.slice (some ⟨w.heap.size,0,none⟩) n n) (w.alloc (.cells (f n) 84)):=by
 have hinfo:(Tryz.prog.info? 84).map (fun i=>(i.size,i.bytes,i.zero.isSome))=some (34,288,true):=by kernel_rfl
 obtain ⟨i,z,hi,h1,h2,h3⟩:∃ (i:TypeInfo) (z:Value),Tryz.prog.info? 84=some i∧i.zero=some z∧i.size=34∧i.bytes=288:=by
  cases hq:Tryz.prog.info? 84 with
  | none=>rw [hq] at hinfo;cases hinfo
  | some i =>
   rw [hq] at hinfo;simp only [Option.map_some,Option.some.injEq,Prod.mk.injEq] at hinfo;obtain ⟨e1,e2,e3⟩:=hinfo;obtain ⟨z,hz⟩:=Option.isSome_iff_exists.1 e3;exact ⟨i,z,rfl,hz,e1,e2⟩
 refine ⟨fun n=>madeCells z.cells (n*34),fun n=>size_madeCells _ _,fun n w hn=>?_⟩;have hr:=run_make (P:=Tryz.prog) w 28 84 i _ Tryz.underlying28 hi h1 .i64 .i64 n n (by omega) (Int.le_refl _) (by rw [h3];omega) (by omega);rw [h2] at hr
 simpa using hr
theorem ldNr {ops:Array Oper} {rest:List Oper} {op:Oper} {a:Act} {w:World} {Q:Exit→Act→World→Prop} {x:Operand} (p:Nr) (b o:Nat) (ho:op.op=.load 84 x) (hw:Region.wanted op (yielded ops a.tmps)=true) (hx:a.eval x=.pointer (some ⟨b,o,none⟩)) (hc:w.rangeAt b o (valsNr p)) (h:wpList Tryz.prog ops Q rest (a.put op.dst (.agg (valsNr p).toArray)) w):wpList Tryz.prog ops Q (op :: rest) a w :=
 ldW 84 x _ b o ho hw hx Tryz.underlying84 rfl (by kernel_rfl) hc h
theorem ldPack {ops:Array Oper} {rest:List Oper} {op:Oper} {a:Act} {w:World} {Q:Exit→Act→World→Prop} {x:Operand} (n:Nd) (b o:Nat) (ho:op.op=.load 78 x) (hw:Region.wanted op (yielded ops a.tmps)=true) (hx:a.eval x=.pointer (some ⟨b,o,none⟩)) (hc:w.rangeAt b o [.int .i64 n.pk.w,.int .i64 n.pk.h,.int .i64 n.pk.s,.bool n.pk.fx,.bool n.pk.fy,.bool n.pk.ex,.int .i64 n.pk.an,.int .i64 n.pk.px,.int .i64 n.pk.py]) (h:wpList Tryz.prog ops Q rest (a.put op.dst (.agg [.int .i64 n.pk.w,.int .i64 n.pk.h,.int .i64 n.pk.s,.bool n.pk.fx,.bool n.pk.fy,.bool n.pk.ex,.int .i64 n.pk.an,.int .i64 n.pk.px,.int .i64 n.pk.py].toArray)) w):wpList Tryz.prog ops Q (op :: rest) a w :=
 ldW 78 x _ b o ho hw hx Tryz.underlying78 rfl (by kernel_rfl) hc h
theorem ldPlace {ops:Array Oper} {rest:List Oper} {op:Oper} {a:Act} {w:World} {Q:Exit→Act→World→Prop} {x:Operand} (n:Nd) (b o:Nat) (ho:op.op=.load 82 x) (hw:Region.wanted op (yielded ops a.tmps)=true) (hx:a.eval x=.pointer (some ⟨b,o,none⟩)) (hc:w.rangeAt b o [.int .i64 n.pl.x,.int .i64 n.pl.y,.int .i64 n.pl.rx,.int .i64 n.pl.ry,.int .i64 n.pl.ww,.int .i64 n.pl.hh,.int .i64 n.pl.qw,.int .i64 n.pl.qh,.int .i64 n.pl.an]) (h:wpList Tryz.prog ops Q rest (a.put op.dst (.agg [.int .i64 n.pl.x,.int .i64 n.pl.y,.int .i64 n.pl.rx,.int .i64 n.pl.ry,.int .i64 n.pl.ww,.int .i64 n.pl.hh,.int .i64 n.pl.qw,.int .i64 n.pl.qh,.int .i64 n.pl.an].toArray)) w):wpList Tryz.prog ops Q (op :: rest) a w :=
 ldW 82 x _ b o ho hw hx Tryz.underlying82 rfl (by kernel_rfl) hc h
theorem ldCell {ops:Array Oper} {rest:List Oper} {op:Oper} {a:Act} {w:World} {Q:Exit→Act→World→Prop} {x:Operand} (n:Nd) (b o:Nat) (ho:op.op=.load 80 x) (hw:Region.wanted op (yielded ops a.tmps)=true) (hx:a.eval x=.pointer (some ⟨b,o,none⟩)) (hc:w.rangeAt b o [.int .i64 n.ce.co,.int .i64 n.ce.ro,.int .i64 n.ce.mc,.int .i64 n.ce.mr,.int .i64 n.ce.cw,.int .i64 n.ce.ch,.int .i64 n.ce.sk,.int .i64 n.ce.px,.int .i64 n.ce.py]) (h:wpList Tryz.prog ops Q rest (a.put op.dst (.agg [.int .i64 n.ce.co,.int .i64 n.ce.ro,.int .i64 n.ce.mc,.int .i64 n.ce.mr,.int .i64 n.ce.cw,.int .i64 n.ce.ch,.int .i64 n.ce.sk,.int .i64 n.ce.px,.int .i64 n.ce.py].toArray)) w):wpList Tryz.prog ops Q (op :: rest) a w :=
 ldW 80 x _ b o ho hw hx Tryz.underlying80 rfl (by kernel_rfl) hc h
theorem hrs {w:World} {b:Nat} {p:Nr} {T:TypeId} {fz:Nat × Nat} (h:w.heap[b]?=some (.cells (valsNr p).toArray T fz)):Go.RowKit.Hid (w.rangeAt b 0 (valsNr p))∧Go.RowKit.Hid (w.rangeAt b 7 [.int .i64 p.n.pk.w,.int .i64 p.n.pk.h,.int .i64 p.n.pk.s,.bool p.n.pk.fx,.bool p.n.pk.fy,.bool p.n.pk.ex,.int .i64 p.n.pk.an,.int .i64 p.n.pk.px,.int .i64 p.n.pk.py])∧Go.RowKit.Hid (w.rangeAt b 25 [.int .i64 p.n.pl.x,.int .i64 p.n.pl.y,.int .i64 p.n.pl.rx,.int .i64 p.n.pl.ry,.int .i64 p.n.pl.ww,.int .i64 p.n.pl.hh,.int .i64 p.n.pl.qw,.int .i64 p.n.pl.qh,.int .i64 p.n.pl.an])∧Go.RowKit.Hid (w.rangeAt b 16 [.int .i64 p.n.ce.co,.int .i64 p.n.ce.ro,.int .i64 p.n.ce.mc,.int .i64 p.n.ce.mr,.int .i64 p.n.ce.cw,.int .i64 p.n.ce.ch,.int .i64 p.n.ce.sk,.int .i64 p.n.ce.px,.int .i64 p.n.ce.py]) :=
 ⟨hD (nodeAt h),hD (by simpa only [Nat.zero_add] using node_pk (nodeAt h)),hD (by simpa only [Nat.zero_add] using node_pl (nodeAt h)),hD (by simpa only [Nat.zero_add] using node_ce (nodeAt h))⟩
theorem xs0_1_2_4_5_6_7_8_20_21 {w:World} {b:Nat} {p:Nr} {T:TypeId} {fz:Nat × Nat} (h:w.heap[b]?=some (.cells (valsNr p).toArray T fz)):w.cell? ⟨b,0,none⟩=some (.int .i64 p.n.pa)∧w.cell? ⟨b,1,none⟩=some (.int .i64 p.n.ww)∧w.cell? ⟨b,2,none⟩=some (.int .i64 p.n.hh)∧w.cell? ⟨b,4,none⟩=some (.int .i64 p.n.ki)∧w.cell? ⟨b,5,none⟩=some (.slice p.ca p.n.cs.length p.cc)∧w.cell? ⟨b,6,none⟩=some (.slice p.ra p.n.rs.length p.rc)∧w.cell? ⟨b,7,none⟩=some (.int .i64 p.n.pk.w)∧w.cell? ⟨b,8,none⟩=some (.int .i64 p.n.pk.h)∧w.cell? ⟨b,20,none⟩=some (.int .i64 p.n.ce.cw)∧w.cell? ⟨b,21,none⟩=some (.int .i64 p.n.ce.ch):=⟨cellS h 0,cellS h 1,cellS h 2,cellS h 4,cellS h 5,cellS h 6,cellS h 7,cellS h 8,cellS h 20,cellS h 21⟩
theorem xs1_2_4_7_8_20_21 {w:World} {b:Nat} {p:Nr} {T:TypeId} {fz:Nat × Nat} (h:w.heap[b]?=some (.cells (valsNr p).toArray T fz)):w.cell? ⟨b,1,none⟩=some (.int .i64 p.n.ww)∧w.cell? ⟨b,2,none⟩=some (.int .i64 p.n.hh)∧w.cell? ⟨b,4,none⟩=some (.int .i64 p.n.ki)∧w.cell? ⟨b,7,none⟩=some (.int .i64 p.n.pk.w)∧w.cell? ⟨b,8,none⟩=some (.int .i64 p.n.pk.h)∧w.cell? ⟨b,20,none⟩=some (.int .i64 p.n.ce.cw)∧w.cell? ⟨b,21,none⟩=some (.int .i64 p.n.ce.ch):=⟨cellS h 1,cellS h 2,cellS h 4,cellS h 7,cellS h 8,cellS h 20,cellS h 21⟩
end
end Go.Proofs.YtenckjdiggaonaaGreat
