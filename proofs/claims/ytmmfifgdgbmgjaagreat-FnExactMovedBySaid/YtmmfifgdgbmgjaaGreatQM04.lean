import Derived.Test.YtmmfifgdgbmgjaaGreatQM03
import Derived.Shelf.Abstract
set_option linter.unusedVariables false
set_option linter.unusedSimpArgs false
set_option maxRecDepth 100000
set_option maxHeartbeats 16000000
namespace Go.Proofs.YtmmfifgdgbmgjaaGreat
open Go.RowKit
attribute [local go_sem] growUpon_value growUpon_skip growUpon_enter
def lineB (l:Ln):Bool:=wB l.wt&&rng l.mi 0 30
def linesB (L:List Ln):Bool:=rng L.length 1 5&&L.all lineB
def runB (a m n:Int):Bool:=rng a 0 (n-1)&&rng m 1 (n-a)
theorem all_snocG {α:Type} {f:α→Bool} {L:List α} {k:Nat} {p:α} (h:L[k]?=some p):(L.take (k+1)).all f=((L.take k).all f&&f p):=by
 have hk:k<L.length:=(List.getElem?_eq_some_iff.1 h).1;have e:L[k]=p:=(List.getElem?_eq_some_iff.1 h).2;rw [List.take_succ_eq_append_getElem hk,e]
 simp
theorem all_falseG {α:Type} {f:α→Bool} {L:List α} {k:Nat} {p:α} (h:L[k]?=some p) (hp:f p=false):L.all f=false:=by
 rw [Bool.eq_false_iff];intro hh;have h1:=List.all_eq_true.1 hh p (List.mem_of_getElem? h);rw [hp] at h1
 cases h1
theorem validLine_v (l:Ln) (b:Bool) (w:World) (hb:lineB l=b):Calls Tryz.prog 152 #[.agg #[.int .i64 l.wt,.int .i64 l.mi]] w fun e w'=>e=.returned (.bool b)∧Below w.heap.size w w':=by
 cases h1:wB l.wt
 ·have hbf:b=false:=by rw [<- hb];simp [lineB,h1]
  subst hbf
  go_enter Tryz.func152,Tryz.ntmps152
  go_wp2_with fail
  with_reducible refine (validWeight_w _ false _ h1).mono ?_
  rintro e w1 ⟨rfl,rfl⟩;go_wp2;go_ret;exact ⟨rfl,balloc (Below.refl _ _)⟩
 ·have h2:rng l.mi 0 30=b:=by rw [<- hb];simp [lineB,h1]
  cases b
  all_goals
   go_enter Tryz.func152,Tryz.ntmps152
   go_wp2_with fail
   with_reducible refine (validWeight_w _ true _ h1).mono ?_
   rintro e w1 ⟨rfl,rfl⟩
   go_wp2_with fail
   with_reducible refine (within_w _ 0 30 _ _ h2).mono ?_
   rintro e w1 ⟨rfl,rfl⟩;go_wp2;go_ret;exact ⟨rfl,balloc (Below.refl _ _)⟩
theorem allOfLn_v (A:Option Addr) (c:Nat) (L:List Ln) (b:Bool) (w:World) (h:LnV w A L) (hL:L.length≤1048576) (hb0:L.all lineB=b) :
  Calls Tryz.prog 151 #[.slice A L.length c,.func (.func 152) #[] #[]] w fun e w'=>e=.returned (.bool b)∧Below w.heap.size w w':=by
 have HB0:=hD hb0;clear hb0
 go_enter Tryz.func151,Tryz.ntmps151
 go_wp2_with fail
 go_loopw [9] (fun i wr=>∃ k:Nat,k≤L.length∧i=.int .i64 k∧(L.take k).all lineB=true∧Below w.heap.size w wr) (fun i _=>L.length-(intOf i).toNat)
 case atStart=>exact ⟨0,by omega,rfl,rfl,Below.refl _ _⟩
 case round =>
  obtain ⟨k,hk,rfl,hok,hB⟩:=hrel
  by_cases hlt:k<L.length
  ·have hd:decide ((k:Int)<(L.length:Int))=true:=by simpa using hlt
   obtain ⟨b',off,rfl,hb',hp⟩:=(h.keep hB).cells (by omega);have hget:L[k]?=some L[k]:=List.getElem?_eq_getElem hlt;obtain ⟨c0,c1⟩:=hp k _ hget;generalize hx:L[k]=p at *;have HG:=hD hget;have HX:=hD hx;have HO:=hD hok;have HBB:=hD hB;clear hget hx hok hB hp
   cases hv:lineB p
   all_goals
    have Hv:=hD hv;clear hv
    go_wp2_with fail
    first|(with_reducible refine (validLine_v p false _ Hv.out).mono ?_)|(with_reducible refine (validLine_v p true _ Hv.out).mono ?_)
    rintro e w1 ⟨rfl,hb1⟩;replace HBB:=hD (bkeep2 (balloc HBB.out) hb1);clear hb1 c0 c1;go_wp2
   ·go_ret;exact ⟨ret_bool (by rw [<- HB0.out];exact (all_falseG HG.out Hv.out).symm),HBB.out⟩
   ·go_roundw
    case rel=>exact ⟨k+1,by omega,by go_num,by rw [all_snocG HG.out,HO.out,Hv.out];rfl,HBB.out⟩
    case measure=>simp [intOf];omega
  ·have hd:decide ((k:Int)<(L.length:Int))=false:=decide_eq_false (by omega);have he:L.take k=L:=List.take_of_length_le (by omega);rw [he] at hok;have HO:=hD hok;have HBB:=hD hB;clear hok hB he;go_wp2;go_ret;exact ⟨ret_bool (by rw [<- HB0.out,HO.out]),HBB.out⟩
theorem validLines_v (A:Option Addr) (c:Nat) (L:List Ln) (b:Bool) (w:World) (h:LnV w A L) (hL:L.length≤1048576) (hb:linesB L=b) :
  Calls Tryz.prog 143 #[.slice A L.length c] w fun e w'=>e=.returned (.bool b)∧Below w.heap.size w w':=by
 cases h1:rng (L.length:Int) 1 5
 ·have hbf:b=false:=by rw [<- hb];simp [linesB,h1]
  subst hbf
  go_enter Tryz.func143,Tryz.ntmps143
  go_wp2_with fail
  with_reducible refine (within_w _ 1 5 false _ h1).mono ?_
  rintro e w1 ⟨rfl,rfl⟩;go_wp2;go_ret;exact ⟨rfl,Below.refl _ _⟩
 ·have h2:L.all lineB=b:=by rw [<- hb];simp [linesB,h1]
  cases b
  all_goals
   go_enter Tryz.func143,Tryz.ntmps143
   go_wp2_with fail
   with_reducible refine (within_w _ 1 5 true _ h1).mono ?_
   rintro e w1 ⟨rfl,rfl⟩
   go_wp2_with fail
   with_reducible refine (allOfLn_v A c L _ _ h hL h2).mono ?_
   rintro e w1 ⟨rfl,hb1⟩;have HB:=hD hb1;clear hb1;go_wp2;go_ret;exact ⟨rfl,HB.out⟩
theorem validRun_v (a m n:Int) (b:Bool) (w:World) (hn:1≤n) (hn5:n≤5) (hb:runB a m n=b):Calls Tryz.prog 149 #[.int .i64 a,.int .i64 m,.int .i64 n] w fun e w'=>e=.returned (.bool b)∧w=w':=by
 cases h1:rng a 0 (n-1)
 ·have hbf:b=false:=by rw [<- hb];simp [runB,h1]
  subst hbf
  go_enter Tryz.func149,Tryz.ntmps149
  go_wp2_with fail
  with_reducible refine (within_w _ 0 (n-1) false _ h1).mono ?_
  rintro e w1 ⟨rfl,rfl⟩;go_wp2;go_ret;exact ⟨rfl,rfl⟩
 ·have h2:rng m 1 (n-a)=b:=by rw [<- hb];simp [runB,h1]
  have ha:=rng_iff.1 h1
  cases b
  all_goals
   go_enter Tryz.func149,Tryz.ntmps149
   go_wp2_with fail
   with_reducible refine (within_w _ 0 (n-1) true _ h1).mono ?_
   rintro e w1 ⟨rfl,rfl⟩
   go_wp2_with fail
   with_reducible refine (within_w _ 1 (n-a) _ _ h2).mono ?_
   rintro e w1 ⟨rfl,rfl⟩;go_wp2;go_ret;exact ⟨rfl,rfl⟩
theorem svalidLine_v (l:Ln) (b:Bool) (w:World) (hb:lineB l=b):Calls Tryz.prog 132 #[.agg #[.int .i64 l.wt,.int .i64 l.mi]] w fun e w'=>e=.returned (.bool b)∧Below w.heap.size w w':=by
 cases h1:wB l.wt
 ·have hbf:b=false:=by rw [<- hb];simp [lineB,h1]
  subst hbf
  go_enter Tryz.func132,Tryz.ntmps132
  go_wp2_with fail
  with_reducible refine (inRange_b _ false _ h1).mono ?_
  rintro e w1 ⟨rfl,rfl⟩;go_wp2;go_ret;exact ⟨rfl,balloc (Below.refl _ _)⟩
 ·have h2:rng l.mi 0 30=b:=by rw [<- hb];simp [lineB,h1]
  cases b
  all_goals
   go_enter Tryz.func132,Tryz.ntmps132
   go_wp2_with fail
   with_reducible refine (inRange_b _ true _ h1).mono ?_
   rintro e w1 ⟨rfl,rfl⟩
   go_wp2_with fail
   with_reducible refine (inRange_w _ 0 30 _ _ h2).mono ?_
   rintro e w1 ⟨rfl,rfl⟩;go_wp2;go_ret;exact ⟨rfl,balloc (Below.refl _ _)⟩
theorem svalidLines_v (A:Option Addr) (c:Nat) (L:List Ln) (b:Bool) (w:World) (h:LnV w A L) (hL:L.length≤1048576) (hb0:linesB L=b) :
  Calls Tryz.prog 108 #[.slice A L.length c] w fun e w'=>e=.returned (.bool b)∧Below w.heap.size w w':=by
 have HB0:=hD hb0;clear hb0
 go_enter Tryz.func108,Tryz.ntmps108
 go_wp2_with fail
 go_loopw [3] (fun i wr=>∃ k:Nat,k≤L.length∧i=.int .i64 k∧(L.take k).all lineB=true∧Below w.heap.size w wr) (fun i _=>L.length-(intOf i).toNat)
 case atStart=>exact ⟨0,by omega,rfl,rfl,Below.refl _ _⟩
 case round =>
  obtain ⟨k,hk,rfl,hok,hB⟩:=hrel
  by_cases hlt:k<L.length
  ·have hd:decide ((k:Int)<(L.length:Int))=true:=by simpa using hlt
   obtain ⟨b',off,rfl,hb',hp⟩:=(h.keep hB).cells (by omega);have hget:L[k]?=some L[k]:=List.getElem?_eq_getElem hlt;obtain ⟨c0,c1⟩:=hp k _ hget;generalize hx:L[k]=p at *;have HG:=hD hget;have HX:=hD hx;have HO:=hD hok;have HBB:=hD hB;clear hget hx hok hB hp
   cases hv:lineB p
   all_goals
    have Hv:=hD hv;clear hv
    go_wp2_with fail
    first|(with_reducible refine (svalidLine_v p false _ Hv.out).mono ?_)|(with_reducible refine (svalidLine_v p true _ Hv.out).mono ?_)
    rintro e w1 ⟨rfl,hb1⟩;replace HBB:=hD (bkeep2 HBB.out hb1);clear hb1 c0 c1;go_wp2
   ·go_ret;exact ⟨ret_bool (by rw [<- HB0.out];simp [linesB,all_falseG HG.out Hv.out]),HBB.out⟩
   ·go_roundw
    case rel=>exact ⟨k+1,by omega,by go_num,by rw [all_snocG HG.out,HO.out,Hv.out];rfl,HBB.out⟩
    case measure=>simp [intOf];omega
  ·have hd:decide ((k:Int)<(L.length:Int))=false:=decide_eq_false (by omega);have he:L.take k=L:=List.take_of_length_le (by omega);rw [he] at hok
   have h1:rng (L.length:Int) 1 5=b:=by rw [<- HB0.out];simp [linesB,hok]
   have HBB:=hD hB;have H1:=hD h1;clear hok hB he h1
   go_wp2_with fail
   with_reducible refine (inRange_w _ 1 5 b _ H1.out).mono ?_
   rintro e w1 ⟨rfl,rfl⟩;go_wp2;go_ret;exact ⟨rfl,HBB.out⟩
def addP:List Int→List Int→List Int
 | o :: os,p :: ps=>(o+p) :: addP os ps
 | os,_=>os
theorem addP_nil (O:List Int):addP O []=O:=by cases O <;> rfl
theorem addP_len:∀ (O P:List Int),(addP O P).length=O.length
 | [],P=>by simp [addP]
 | o :: os,[]=>rfl
 | o :: os,p :: ps=>by simp [addP,addP_len os ps]
theorem addP_get:∀ {O P:List Int} {i:Nat} {o:Int},O[i]?=some o→P.length≤i→(addP O P)[i]?=some o
 | [],P,i,o,h,_=>by simp at h
 | x :: os,[],i,o,h,_=>h
 | x :: os,p :: ps,0,o,h,hl=>by simp at hl
 | x :: os,p :: ps,i+1,o,h,hl=>by
  simp at h hl
  simpa [addP] using addP_get h hl
theorem addP_snoc:∀ {O P:List Int} {i:Nat} {o p:Int},O[i]?=some o→P[i]?=some p→(addP O (P.take i)).set i (o+p)=addP O (P.take (i+1))
 | [],P,i,o,p,h,_=>by simp at h
 | x :: os,[],i,o,p,_,h=>by simp at h
 | x :: os,q :: ps,0,o,p,h,hp=>by
  simp at h hp
  subst h hp
  simp [addP,addP_nil]
 | x :: os,q :: ps,i+1,o,p,h,hp=>by
  simp at h hp
  simp [addP,addP_snoc h hp]
def addAt (O:List Int) (k:Nat) (P:List Int):List Int:=O.take k ++ addP (O.drop k) P
theorem addAt_len (O:List Int) (k:Nat) (P:List Int):(addAt O k P).length=O.length:=by
 unfold addAt;rw [List.length_append,addP_len,List.length_take,List.length_drop];omega
theorem addAt_nil (O:List Int) (k:Nat):addAt O k []=O:=by simp [addAt,addP_nil]
theorem addAt_get {O P:List Int} {k i:Nat} {o:Int} (h:O[k+i]?=some o) (hl:P.length≤i):(addAt O k P)[k+i]?=some o:=by
 have hk:=(List.getElem?_eq_some_iff.1 h).1
 have e:(O.take k).length=k:=by rw [List.length_take];omega
 unfold addAt;rw [List.getElem?_append_right (by omega),e,Nat.add_sub_cancel_left];exact addP_get (by rw [List.getElem?_drop];exact h) hl
theorem addAt_snoc {O P:List Int} {k i:Nat} {o p:Int} (h:O[k+i]?=some o) (hp:P[i]?=some p):(addAt O k (P.take i)).set (k+i) (o+p)=addAt O k (P.take (i+1)):=by
 have hk:=(List.getElem?_eq_some_iff.1 h).1
 have e:(O.take k).length=k:=by rw [List.length_take];omega
 unfold addAt;rw [List.set_append_right _ _ (by omega),e,Nat.add_sub_cancel_left,addP_snoc (by rw [List.getElem?_drop];exact h) hp]
theorem below_grownI {w w':World} {B:Nat} {row:Option Nat} (h:w.grownBy w' row) (hr:∀ g,row=some g→B≤g) (hB:B≤w.heap.size):Below B w w' :=
 ⟨h.os,h.tape,h.output,h.size,fun k hk=>h.block k (by omega) (fun e=>by have:=hr k e.symm;omega)⟩
theorem gsetI {w w':World} {g:Nat} (h:w.grownBy w' (some g)) (o:Nat) (v:Value):w.grownBy (w'.setCell ⟨g,o,none⟩ v) (some g) :=
 ⟨h.os,h.tape,h.output,by simpa [World.setCell] using h.size,fun k hk hne=>(Below.heap_setCell w' ⟨g,o,none⟩ v k (by rintro rfl;exact hne rfl)).trans (h.block k hk hne)⟩
theorem greflI (w:World) (g:Nat):w.grownBy w (some g):=⟨rfl,rfl,rfl,Nat.le_refl _,fun _ _ _=>rfl⟩
def NR (w:World) (v:Value) (L:List Int):Prop:=∃ A c,v=.slice A L.length c∧NV w A L
theorem NR.keep {w w':World} {v:Value} {L:List Int} (h:NR w v L) (hb:Below w.heap.size w w'):NR w' v L:=let ⟨A,c,e,n⟩:=h;⟨A,c,e,n.keep hb⟩
theorem IB.but {w w':World} {g h:Nat} {L:List Int} (hi:IB w h L) (hg:w.grownBy w' (some g)) (hne:h≠g):IB w' h L:=(hg.block h hi.lt (fun e=>hne (Option.some.inj e))).trans hi
theorem eqIntS_same (v v':Value) (L:List Int) (w:World) (h:NR w v L) (h':NR w v' L) (hL:L.length≤1048576) :
  Calls Tryz.prog 12 #[v,v'] w fun e w'=>e=.returned (.bool true)∧Below w.heap.size w w':=by
 obtain ⟨A,c,rfl,h⟩:=h;obtain ⟨B,c',rfl,h'⟩:=h'
 go_enter Tryz.func12,Tryz.ntmps12
 go_wp2_with fail
 go_loopw [5] (fun i wr=>∃ k:Nat,k≤L.length∧i=.int .i64 k∧Below w.heap.size w wr) (fun i _=>L.length-(intOf i).toNat)
 case atStart=>exact ⟨0,by omega,rfl,Below.refl _ _⟩
 case round =>
  obtain ⟨k,hk,rfl,hB⟩:=hrel
  by_cases hlt:k<L.length
  ·have hd:decide ((k:Int)<(L.length:Int))=true:=by simpa using hlt
   obtain ⟨b,off,rfl,hb,hp⟩:=(h.keep hB).cells (by omega);obtain ⟨b',off',rfl,hb',hp'⟩:=(h'.keep hB).cells (by omega);have hget:L[k]?=some L[k]:=List.getElem?_eq_getElem hlt;have c0:=hp k _ hget;have d0:=hp' k _ hget;generalize hx:L[k]=x at *;have HB:=hD hB;clear hget hx hp hp' hB
   go_wp2_with fail
   refine wp_region_grow 9 0 (·<9) (by kernel_rfl) (by kernel_rfl) rfl ?_
   iterate 9 (refine wpG_step (fun K hK=>?_);first|(refine grow_skip rfl ?_;go_simp;refine hK _ ?_;clear hK K)|(apply Exists.intro;refine ⟨.inl ⟨rfl,fun w' hw'=>?_⟩,?_⟩;(focus ((obtain ⟨hc,hf⟩:=bcell hw'.out);(have hcS:=bcellS hw'.out);go_simp <;> first | rfl|(fail)));(go_simp;refine hK _ ?_;clear hK K)))
   refine wpG_nil ?_;refine wpK_tail (by kernel_rfl) (fun w1 hg1=>?_);have hb1:=bdrewn hg1.out;refine wpAny_end (by kernel_rfl) ?_;refine NoPan.thn ?_;clear hg1;replace HB:=hD (HB.out.trans (hb1.mono HB.out.size));clear hb1 c0 d0;go_wp2
   go_roundw
   case rel=>exact ⟨k+1,by omega,by go_num,HB.out⟩
   case measure=>simp [intOf];omega
  ·have hd:decide ((k:Int)<(L.length:Int))=false:=by simp;omega
   have HB:=hD hB;clear hB;go_wp2;go_ret;exact ⟨rfl,HB.out⟩
theorem ones_get:∀ {m:Int} {ws bs:List Int} {k:Nat} {x b:Int},ws[k]?=some x→bs[k]?=some b→∃ y,(onesM m ws bs)[k]?=some y∧(y=b∨(y=b+1∧0<x))
 | m,[],bs,k,x,b,hx,_=>by simp at hx
 | m,z :: ws,[],k,x,b,_,hb=>by simp at hb
 | m,z :: ws,c :: bs,0,x,b,hx,hb=>by
  simp at hx hb
  subst hx hb;unfold onesM
  split
  ·rename_i h;exact ⟨_,rfl,.inr ⟨rfl,h.1⟩⟩
  ·exact ⟨_,rfl,.inl rfl⟩
 | m,z :: ws,c :: bs,k+1,x,b,hx,hb=>by
  simp at hx hb
  unfold onesM
  split
  ·simpa using ones_get (m:=m-1) hx hb
  ·simpa using ones_get (m:=m) hx hb
theorem ones_sum:∀ {m:Int} {ws bs:List Int},ws.length=bs.length→0≤m→m≤cntP ws→sumI (onesM m ws bs)=sumI bs+m
 | m,[],[],_,h0,h1=>by simp [cntP] at h1;simp [onesM,sumI];omega
 | m,[],b :: bs,h,_,_=>by simp at h
 | m,x :: ws,[],h,_,_=>by simp at h
 | m,x :: ws,b :: bs,h,h0,h1=>by
  have hl:ws.length=bs.length:=by simpa using h
  simp only [cntP] at h1;have hc:=(cntP_bd ws).1;unfold onesM
  split
  ·rename_i hp
   rw [if_pos hp.1] at h1;have ih:=ones_sum (m:=m-1) hl (by omega) (by omega);simp only [sumI,ih];omega
  ·rename_i hp
   by_cases hx:0<x
   ·have hm:m=0:=by
     by_cases hm:0<m
     ·exact absurd ⟨hx,hm⟩ hp
     ·omega
    subst hm;have ih:=ones_sum (m:=0) hl (by omega) hc;simp only [sumI,ih];omega
   ·rw [if_neg hx] at h1;have ih:=ones_sum (m:=m) hl h0 (by omega);simp only [sumI,ih];omega
theorem sum_replicate:∀ k:Nat,sumI (List.replicate k 0)=0
 | 0=>rfl
 | k+1=>by rw [List.replicate_succ];simp [sumI,sum_replicate k]
theorem spread_sum {n:Int} {ws:List Int} (hn:0≤n) (h:wsOK ws):sumI (spreadM n ws)=n:=by
 unfold spreadM
 split
 ·obtain ⟨j,hj⟩:∃ j,ws.length=j+1:=⟨ws.length-1,by have:=h.2.1;omega⟩
  have e:ws.length-1=j:=by omega
  rw [e,hj,List.replicate_succ',List.set_append_right _ _ (by simp)]
  simp [sumI_append,sum_replicate,sumI]
 ·rename_i hS
  obtain ⟨m0,m1⟩:=miss_bd hn h.nn hS;rw [ones_sum (by rw [baseM_len]) m0 m1];omega
theorem spread_get {n:Int} {ws:List Int} {k:Nat} {x:Int} (hn:0≤n) (h:wsOK ws) (hx:ws[k]?=some x):∃ y,(spreadM n ws)[k]?=some y∧0≤y∧y≤n ∧
  (0<sumI ws→(x=0→y=0)∧y*sumI ws≤n*x+sumI ws∧n*x-sumI ws≤y*sumI ws):=by
 obtain ⟨hk,e⟩:=List.getElem?_eq_some_iff.1 hx;have hxm:x∈ws:=List.mem_of_getElem? hx;have hx0:=h.nn x hxm;have hxs:=mem_le_sum h.nn x hxm;have hs0:=h.sum
 by_cases hS:sumI ws=0
 ·have hl:=spreadM_len (n:=n) (ws:=ws);refine ⟨(spreadM n ws)[k]'(by omega),List.getElem?_eq_getElem (by omega),?_,?_,fun h0=>by omega⟩
  ·have e1:(spreadM n ws)=(List.replicate ws.length 0).set (ws.length-1) n:=by unfold spreadM;rw [if_pos hS]
   simp only [e1,List.getElem_set,List.getElem_replicate]
   split <;> omega
  ·have e1:(spreadM n ws)=(List.replicate ws.length 0).set (ws.length-1) n:=by unfold spreadM;rw [if_pos hS]
   simp only [e1,List.getElem_set,List.getElem_replicate]
   split <;> omega
 ·have hSp:0<sumI ws:=by omega
  have hsum:=spread_sum hn h;have hb:=base_get (n:=n) (S:=sumI ws) hx;obtain ⟨b0,b1⟩:=base_bd hn hSp hx0 hxs;obtain ⟨y,hy,hyb⟩:=ones_get (m:=n-sumI (baseM n (sumI ws) ws)) hx hb
  have e1:spreadM n ws=onesM (n-sumI (baseM n (sumI ws) ws)) ws (baseM n (sumI ws) ws):=by unfold spreadM;rw [if_neg hS]
  rw [<- e1] at hy
  have hnn:∀ z∈spreadM n ws,0≤z:=fun z hz=>by
   obtain ⟨i,hi,ez⟩:=List.mem_iff_getElem.1 hz;have hl:=spreadM_len (n:=n) (ws:=ws)
   have hi':i<ws.length:=by omega
   have hxi:=List.getElem?_eq_getElem hi';obtain ⟨y',hy',hyb'⟩:=ones_get (m:=n-sumI (baseM n (sumI ws) ws)) hxi (base_get (n:=n) (S:=sumI ws) hxi);rw [<- e1,List.getElem?_eq_getElem hi,ez] at hy';obtain rfl:=Option.some.inj hy'
   have:=(base_bd hn hSp (h.nn _ (List.getElem_mem hi')) (mem_le_sum h.nn _ (List.getElem_mem hi'))).1
   omega
  have hyn:=mem_le_sum hnn y (List.mem_of_getElem? hy);rw [hsum] at hyn;have em:=Int.mul_ediv_add_emod (n*x) (sumI ws);have r0:=Int.emod_nonneg (n*x) hS;have r1:=Int.emod_lt_of_pos (n*x) hSp;refine ⟨y,hy,by omega,hyn,fun _=>⟨fun hx00=>?_,?_,?_⟩⟩
  ·subst hx00
   rcases hyb with rfl | ⟨_,h0⟩
   ·simp
   ·omega
  ·generalize n*x / sumI ws=q at *;generalize (n*x) % sumI ws=r at *;generalize sumI ws=S at *
   rcases hyb with rfl | ⟨rfl,_⟩
   ·rw [Int.mul_comm y S];omega
   ·rw [Int.add_mul,Int.one_mul,Int.mul_comm q S];omega
  ·generalize n*x / sumI ws=q at *;generalize (n*x) % sumI ws=r at *;generalize sumI ws=S at *
   rcases hyb with rfl | ⟨rfl,_⟩
   ·rw [Int.mul_comm y S];omega
   ·rw [Int.add_mul,Int.one_mul,Int.mul_comm q S];omega
section
attribute [local go_sem 5000] run_mx run_mn
theorem least_v (l:Ln) (w:World):Calls Tryz.prog 193 #[.agg #[.int .i64 l.wt,.int .i64 l.mi]] w fun e w'=>e=.returned (.int .i64 l.mi)∧Below w.heap.size w w':=by
 go_enter Tryz.func193,Tryz.ntmps193
 go_wp2;go_ret;exact ⟨rfl,balloc (Below.refl _ _)⟩
theorem each_least (A:Option Addr) (c:Nat) (L:List Ln) (w:World) (h:LnV w A L) (hL:L.length≤1048576) :
  Calls Tryz.prog 189 #[.slice A L.length c,.func (.func 193) #[] #[]] w fun e w'=>e=.returned (.slice (some ⟨w.heap.size,0,none⟩) L.length L.length)∧IB w' w.heap.size (L.map Ln.mi)∧Below w.heap.size w w':=by
 have hmk:∀ w:World,(Instr.makeSlice 26 (.int .i64 (L.length:Int)) (.int .i64 (L.length:Int))).run Tryz.prog w=.ok (.slice (some ⟨w.heap.size,0,none⟩) L.length L.length) (w.alloc (.cells (ivals (List.replicate L.length 0)) 3)):=fun w=>madeI L.length w hL
 go_enter Tryz.func189,Tryz.ntmps189
 go_wp2_with fail
 have hlm:(L.map Ln.mi).length=L.length:=by simp
 have hI0:=makeI_b L.length w;have hB0:Below w.heap.size w (w.alloc (.cells (ivals (List.replicate L.length 0)) 3)):=balloc (Below.refl _ _)
 have hI1:IB (w.alloc (.cells (ivals (List.replicate L.length 0)) 3)) w.heap.size (mixM (L.map Ln.mi) 0):=by rw [mixM_zero,hlm];exact hI0
 have HI0:=hD hI1;have HB0:=hD hB0;have HLM:=hD hlm;clear hmk hI0 hB0 hI1 hlm
 go_loopw [13] (fun i wr=>∃ k:Nat,k≤L.length∧i=.int .i64 k∧IB wr w.heap.size (mixM (L.map Ln.mi) k)∧Below w.heap.size w wr) (fun i _=>L.length-(intOf i).toNat)
 case atStart=>exact ⟨0,by omega,rfl,HI0.out,HB0.out⟩
 case round =>
  obtain ⟨k,hk,rfl,hI,hBr⟩:=hrel;clear HI0 HB0
  by_cases hlt:k<L.length
  ·have hd:decide ((k:Int)<(L.length:Int))=true:=by simpa using hlt
   obtain ⟨b,off,rfl,hb,hp⟩:=(h.keep hBr).cells (by omega);have hget:L[k]?=some L[k]:=List.getElem?_eq_getElem hlt;obtain ⟨c0,c1⟩:=hp k _ hget
   have hgm:(L.map Ln.mi)[k]?=some L[k].mi:=by rw [List.getElem?_map,hget];rfl
   generalize hx:L[k]=x at *;have HI:=hD hI;have HBR:=hD hBr;have HGM:=hD hgm;clear hI hBr hp hget hx hgm
   go_wp2_with fail
   refine (least_v x _).mono ?_;rintro e w1 ⟨rfl,hb1⟩
   have hb01:=(bkeep2 (balloc (Below.refl wr.heap.size wr)) hb1)
   replace HI:=hD (HI.out.keep hb01);replace HBR:=hD (HBR.out.trans (hb01.mono HBR.out.size));clear hb1 hb01 c0 c1;obtain ⟨y,hy⟩:=mixM_get (B:=L.map Ln.mi) (k:=k) (by rw [HLM.out];exact hlt);have d0:=HI.out.cell hy;have f0:=HI.out.frozen k;have hI2:=HI.out.set k x.mi;rw [mixM_set HGM.out] at hI2;have HI2:=hD hI2
   have HB2:=hD (HBR.out.setCell (p:=⟨w.heap.size,k,none⟩) (Nat.le_refl _) (.int .i64 x.mi));clear hI2 hy HI HBR;go_wp2
   go_roundw
   case rel=>exact ⟨k+1,by omega,by go_num,HI2.out,HB2.out⟩
   case measure=>simp [intOf];omega
  ·have hd:decide ((k:Int)<(L.length:Int))=false:=decide_eq_false (by omega)
   obtain rfl:k=L.length:=by omega
   rw [<- HLM.out,mixM_all] at hI;have HI2:=hD hI;have HB2:=hD hBr;clear hI hBr;go_wp2;go_ret;exact ⟨rfl,HI2.out,HB2.out⟩
theorem weight_v (l:Ln) (w:World):Calls Tryz.prog 190 #[.agg #[.int .i64 l.wt,.int .i64 l.mi]] w fun e w'=>e=.returned (.int .i64 l.wt)∧Below w.heap.size w w':=by
 go_enter Tryz.func190,Tryz.ntmps190
 go_wp2;go_ret;exact ⟨rfl,balloc (Below.refl _ _)⟩
theorem each_weight (A:Option Addr) (c:Nat) (L:List Ln) (w:World) (h:LnV w A L) (hL:L.length≤1048576) :
  Calls Tryz.prog 189 #[.slice A L.length c,.func (.func 190) #[] #[]] w fun e w'=>e=.returned (.slice (some ⟨w.heap.size,0,none⟩) L.length L.length)∧IB w' w.heap.size (L.map Ln.wt)∧Below w.heap.size w w':=by
 have hmk:∀ w:World,(Instr.makeSlice 26 (.int .i64 (L.length:Int)) (.int .i64 (L.length:Int))).run Tryz.prog w=.ok (.slice (some ⟨w.heap.size,0,none⟩) L.length L.length) (w.alloc (.cells (ivals (List.replicate L.length 0)) 3)):=fun w=>madeI L.length w hL
 go_enter Tryz.func189,Tryz.ntmps189
 go_wp2_with fail
 have hlm:(L.map Ln.wt).length=L.length:=by simp
 have hI0:=makeI_b L.length w;have hB0:Below w.heap.size w (w.alloc (.cells (ivals (List.replicate L.length 0)) 3)):=balloc (Below.refl _ _)
 have hI1:IB (w.alloc (.cells (ivals (List.replicate L.length 0)) 3)) w.heap.size (mixM (L.map Ln.wt) 0):=by rw [mixM_zero,hlm];exact hI0
 have HI0:=hD hI1;have HB0:=hD hB0;have HLM:=hD hlm;clear hmk hI0 hB0 hI1 hlm
 go_loopw [13] (fun i wr=>∃ k:Nat,k≤L.length∧i=.int .i64 k∧IB wr w.heap.size (mixM (L.map Ln.wt) k)∧Below w.heap.size w wr) (fun i _=>L.length-(intOf i).toNat)
 case atStart=>exact ⟨0,by omega,rfl,HI0.out,HB0.out⟩
 case round =>
  obtain ⟨k,hk,rfl,hI,hBr⟩:=hrel;clear HI0 HB0
  by_cases hlt:k<L.length
  ·have hd:decide ((k:Int)<(L.length:Int))=true:=by simpa using hlt
   obtain ⟨b,off,rfl,hb,hp⟩:=(h.keep hBr).cells (by omega);have hget:L[k]?=some L[k]:=List.getElem?_eq_getElem hlt;obtain ⟨c0,c1⟩:=hp k _ hget
   have hgm:(L.map Ln.wt)[k]?=some L[k].wt:=by rw [List.getElem?_map,hget];rfl
   generalize hx:L[k]=x at *;have HI:=hD hI;have HBR:=hD hBr;have HGM:=hD hgm;clear hI hBr hp hget hx hgm
   go_wp2_with fail
   refine (weight_v x _).mono ?_;rintro e w1 ⟨rfl,hb1⟩
   have hb01:=(bkeep2 (balloc (Below.refl wr.heap.size wr)) hb1)
   replace HI:=hD (HI.out.keep hb01);replace HBR:=hD (HBR.out.trans (hb01.mono HBR.out.size));clear hb1 hb01 c0 c1;obtain ⟨y,hy⟩:=mixM_get (B:=L.map Ln.wt) (k:=k) (by rw [HLM.out];exact hlt);have d0:=HI.out.cell hy;have f0:=HI.out.frozen k;have hI2:=HI.out.set k x.wt;rw [mixM_set HGM.out] at hI2;have HI2:=hD hI2
   have HB2:=hD (HBR.out.setCell (p:=⟨w.heap.size,k,none⟩) (Nat.le_refl _) (.int .i64 x.wt));clear hI2 hy HI HBR;go_wp2
   go_roundw
   case rel=>exact ⟨k+1,by omega,by go_num,HI2.out,HB2.out⟩
   case measure=>simp [intOf];omega
  ·have hd:decide ((k:Int)<(L.length:Int))=false:=decide_eq_false (by omega)
   obtain rfl:k=L.length:=by omega
   rw [<- HLM.out,mixM_all] at hI;have HI2:=hD hI;have HB2:=hD hBr;clear hI hBr;go_wp2;go_ret;exact ⟨rfl,HI2.out,HB2.out⟩
theorem grown_below {w w' w2:World} {g:Nat} (h:w.grownBy w' (some g)) (hb:Below w'.heap.size w' w2):w.grownBy w2 (some g) :=
 ⟨hb.os.trans h.os,hb.tape.trans h.tape,hb.output.trans h.output,Nat.le_trans h.size hb.size,fun k hk hne=>(hb.block k (Nat.lt_of_lt_of_le hk h.size)).trans (h.block k hk hne)⟩
theorem spread_pos {n:Int} {ws:List Int} (hn:0≤n) (h:wsOK ws):∀ y∈spreadM n ws,0≤y∧y≤n:=fun y hy=>by
 obtain ⟨k,hk,e⟩:=List.mem_iff_getElem.1 hy;have hl:=spreadM_len (n:=n) (ws:=ws);obtain ⟨y',h1,h2,h3,_⟩:=spread_get hn h (List.getElem?_eq_getElem (show k<ws.length by omega));rw [List.getElem?_eq_getElem hk,e] at h1;obtain rfl:=Option.some.inj h1;exact ⟨h2,h3⟩
theorem enlarge_v (g sa m c:Nat) (B:Option Addr) (c':Nat) (O ws:List Int) (n:Int) (w:World) (hI:IB w g O) (hm:m=ws.length) (hO:sa+m≤O.length) (hOb:∀ x∈O,0≤x∧x≤100000000000000) (h:NV w B ws) (hw:wsOK ws) (hn:0≤n) (hn2:n≤100000000000000) :
  Calls Tryz.prog 192 #[.slice (some ⟨g,sa,none⟩) m c,.int .i64 n,.slice B m c'] w fun e w'=>(∃ v,e=.returned v)∧IB w' g (addAt O sa (spreadM n ws))∧w.grownBy w' (some g):=by
 subst hm;have hlm:(spreadM n ws).length=ws.length:=spreadM_len;have HPB:=hD (spread_pos hn hw);have HOB:=hD hOb;have HLM:=hD hlm;have hgl:=hI.lt;have hw5:=hw.2.2;clear hOb hlm
 go_enter Tryz.func192,Tryz.ntmps192
 go_wp2_with fail
 with_reducible refine (spread_v B c' n ws _ h hw hn hn2).mono ?_
 rintro e w1 ⟨rfl,hp,hb1⟩;have HI:=hD (hI.keep hb1);have HP:=hD hp;have HB:=hD hb1
 have hgn:g≠w.heap.size:=by omega
 clear hp hb1 hI h
 go_wp2_with fail
 go_loopw [12] (fun i wr=>∃ k:Nat,k≤ws.length∧i=.int .i64 k∧IB wr g (addAt O sa ((spreadM n ws).take k))∧w1.grownBy wr (some g)) (fun i _=>ws.length-(intOf i).toNat)
 case atStart=>exact ⟨0,by omega,rfl,by rw [List.take_zero,addAt_nil];exact HI.out,greflI _ _⟩
 case round =>
  obtain ⟨k,hk,rfl,hIr,hgr⟩:=hrel;clear HI
  by_cases hlt:k<ws.length
  ·have hd:decide ((k:Int)<(ws.length:Int))=true:=by simpa using hlt
   have hkp:k<(spreadM n ws).length:=by have:=HLM.out;omega
   have hgp:(spreadM n ws)[k]?=some (spreadM n ws)[k]:=List.getElem?_eq_getElem hkp;have hpb:=HPB.out _ (List.getElem_mem hkp)
   have hko:sa+k<O.length:=by omega
   have hgo:O[sa+k]?=some O[sa+k]:=List.getElem?_eq_getElem hko;have hob:=HOB.out _ (List.getElem_mem hko);generalize (spreadM n ws)[k]=p at *;generalize O[sa+k]=o at *;have c0:=(HP.out.but hgr (by omega)).cell hgp;have d0:=hIr.cell (addAt_get hgo (P:=(spreadM n ws).take k) (by rw [List.length_take];omega));have f0:=hIr.frozen (sa+k);have hI2:=hIr.set (sa+k) (o+p);rw [addAt_snoc hgo hgp] at hI2
   have HI2:=hD hI2;have HG2:=hD (gsetI hgr (sa+k) (.int .i64 (o+p)));obtain ⟨hp0,hp1⟩:=hpb;obtain ⟨ho0,ho1⟩:=hob;clear hIr hgr hI2 hgp hgo;go_wp2
   go_roundw
   case rel=>exact ⟨k+1,by omega,by go_num,HI2.out,HG2.out⟩
   case measure=>simp [intOf];omega
  ·have hd:decide ((k:Int)<(ws.length:Int))=false:=decide_eq_false (by omega);have hke:(spreadM n ws).take k=spreadM n ws:=List.take_of_length_le (by have:=HLM.out;omega);rw [hke] at hIr;have HI2:=hD hIr;have HG2:=hD hgr;clear hIr hgr hke;go_wp2
   go_end0
   exact ⟨⟨_,rfl⟩,HI2.out,⟨HG2.out.os.trans HB.out.os,HG2.out.tape.trans HB.out.tape,HG2.out.output.trans HB.out.output,Nat.le_trans HB.out.size HG2.out.size,fun k hk hne=>(HG2.out.block k (Nat.lt_of_lt_of_le hk HB.out.size) hne).trans (HB.out.block k hk)⟩⟩
end
def segI (O:List Int) (a m:Nat):List Int:=(O.drop a).take m
theorem segI_len {O:List Int} {a m:Nat} (h:a+m≤O.length):(segI O a m).length=m:=by unfold segI;rw [List.length_take,List.length_drop];omega
theorem segI_mem {O:List Int} {a m:Nat} {x:Int} (h:x∈segI O a m):x∈O:=List.mem_of_mem_drop (List.mem_of_mem_take h)
def stepM (ws O:List Int) (s:Sp):List Int:=addAt O s.sa.toNat (spreadM (mx (s.need-sumI (segI O s.sa.toNat s.many.toNat)) 0) (segI ws s.sa.toNat s.many.toNat))
def roundM (ws:List Int) (m:Int) (S:List Sp) (O:List Int):List Int:=S.foldl (fun O s=>if s.many=m then stepM ws O s else O) O
def reqN (ws:List Int) (S:List Sp) (O:List Int):Nat→List Int
 | 0=>O
 | i+1=>roundM ws ((i:Int)+1) S (reqN ws S O i)
def wishM (L:List Ln) (S:List Sp):List Int:=reqN (L.map Ln.wt) S (L.map Ln.mi) L.length
theorem roundM_snoc {ws:List Int} {m:Int} {S:List Sp} {O:List Int} {j:Nat} {s:Sp} (h:S[j]?=some s):roundM ws m (S.take (j+1)) O=(if s.many=m then stepM ws (roundM ws m (S.take j) O) s else roundM ws m (S.take j) O):=by
 obtain ⟨hj,e⟩:=List.getElem?_eq_some_iff.1 h;unfold roundM;rw [List.take_succ_eq_append_getElem hj,e,List.foldl_append]
 rfl
theorem sum_addP:∀ {O P:List Int},P.length≤O.length→sumI (addP O P)=sumI O+sumI P
 | O,[],_=>by rw [addP_nil];simp [sumI]
 | [],p :: ps,h=>by simp at h
 | o :: os,p :: ps,h=>by
  have:=sum_addP (O:=os) (P:=ps) (by simpa using h)
  simp only [addP,sumI,this];omega
theorem sum_addAt {O P:List Int} {k:Nat} (h:k+P.length≤O.length):sumI (addAt O k P)=sumI O+sumI P:=by
 unfold addAt;rw [sumI_append,sum_addP (by rw [List.length_drop];omega)]
 have:=sumI_append (O.take k) (O.drop k)
 rw [List.take_append_drop] at this;omega
theorem nn_addP:∀ {O P:List Int},(∀ x∈O,0≤x)→(∀ x∈P,0≤x)→∀ x∈addP O P,0≤x
 | [],P,_,_,x,hx=>by simp [addP] at hx
 | o :: os,[],h,_,x,hx=>h x hx
 | o :: os,p :: ps,h,hp,x,hx=>by
  simp only [addP] at hx
  rcases List.mem_cons.1 hx with rfl | hx
  ·have:=h o List.mem_cons_self;have:=hp p List.mem_cons_self;omega
  ·exact nn_addP (fun y hy=>h y (List.mem_cons_of_mem _ hy)) (fun y hy=>hp y (List.mem_cons_of_mem _ hy)) x hx
theorem nn_addAt {O P:List Int} {k:Nat} (h:∀ x∈O,0≤x) (hp:∀ x∈P,0≤x):∀ x∈addAt O k P,0≤x:=fun x hx=>by
 unfold addAt at hx
 rcases List.mem_append.1 hx with hx | hx
 ·exact h x (List.mem_of_mem_take hx)
 ·exact nn_addP (fun y hy=>h y (List.mem_of_mem_drop hy)) hp x hx
theorem spread_nn {n:Int} {ws:List Int} (hn:0≤n) (h:wsOK ws):∀ y∈spreadM n ws,0≤y:=fun y hy=>by
 obtain ⟨k,hk,e⟩:=List.mem_iff_getElem.1 hy;have hl:=spreadM_len (n:=n) (ws:=ws);obtain ⟨y',h1,h2,h3,_⟩:=spread_get hn h (List.getElem?_eq_getElem (show k<ws.length by omega));rw [List.getElem?_eq_getElem hk,e] at h1;obtain rfl:=Option.some.inj h1;exact h2
def Bd (n:Nat) (M:Int) (O:List Int):Prop:=O.length=n∧(∀ x∈O,0≤x)∧sumI O≤M
theorem seg_ok {ws:List Int} {a m:Nat} (hw:wsOK ws) (h1:1≤m) (h:a+m≤ws.length):wsOK (segI ws a m) :=
 ⟨fun x hx=>hw.1 x (segI_mem hx),by rw [segI_len h];exact h1,by rw [segI_len h];have:=hw.2.2;omega⟩
theorem min_bd {L:List Ln} (h:linesB L=true):Bd L.length 150 (L.map Ln.mi)∧wsOK (L.map Ln.wt):=by
 simp only [linesB,Bool.and_eq_true,rng_iff,List.all_eq_true,lineB,wB] at h;obtain ⟨⟨h1,h2⟩,h3⟩:=h
 have hm:∀ x∈L.map Ln.mi,0≤x∧x≤30:=fun x hx=>by
  obtain ⟨l,hl,rfl⟩:=List.mem_map.1 hx;exact (h3 l hl).2
 have hs:=sumI_bd hm;rw [List.length_map] at hs;refine ⟨⟨by simp,fun x hx=>(hm x hx).1,by omega⟩,fun x hx=>?_,by simp;omega,by simp;omega⟩;obtain ⟨l,hl,rfl⟩:=List.mem_map.1 hx;exact (h3 l hl).1
def spanW (n:Nat) (s:Sp):Prop:=∃ a m:Nat,s.sa=a∧s.many=m∧1≤m∧a+m≤n∧0≤s.need∧s.need≤1000000000020
def spansW (n:Nat) (S:List Sp):Prop:=S.length≤10∧∀ s∈S,spanW n s
theorem step_bdW {n:Nat} {M:Int} {ws O:List Int} {s:Sp} (hw:wsOK ws) (hl:ws.length=n) (hs:spanW n s) (h:Bd n M O):Bd n (M+s.need) (stepM ws O s):=by
 obtain ⟨a,m,e1,e2,h1,h2,h3,h4⟩:=hs;obtain ⟨hO,hnn,hsum⟩:=h;have hseg:=seg_ok hw h1 (by omega:a+m≤ws.length);have hnn2:=sumI_nonneg (fun x hx=>hnn x (segI_mem (a:=a) (m:=m) hx));have mx1:=mx_spec (s.need-sumI (segI O a m)) 0
 have ea:s.sa.toNat=a:=by omega
 have em:s.many.toNat=m:=by omega
 unfold stepM;rw [ea,em]
 have hn0:0≤mx (s.need-sumI (segI O a m)) 0:=by omega
 refine ⟨by rw [addAt_len];exact hO,nn_addAt hnn (spread_nn hn0 hseg),?_⟩;rw [sum_addAt (by rw [spreadM_len,segI_len (by omega)];omega),spread_sum hn0 hseg];omega
def needOf (S:List Sp) (m:Int):Int:=sumI (S.map fun s=>if s.many=m then s.need else 0)
theorem needOf_snoc {S:List Sp} {j:Nat} {s:Sp} {m:Int} (h:S[j]?=some s):needOf (S.take (j+1)) m=needOf (S.take j) m+(if s.many=m then s.need else 0):=by
 obtain ⟨hj,e⟩:=List.getElem?_eq_some_iff.1 h;unfold needOf;rw [List.take_succ_eq_append_getElem hj,e,List.map_append,sumI_append]
 simp [sumI]
theorem round_bdW {n:Nat} {ws:List Int} {S:List Sp} {m:Int} (hw:wsOK ws) (hl:ws.length=n) (hs:∀ s∈S,spanW n s):∀ {M:Int} {O:List Int} (j:Nat),j≤S.length→Bd n M O→Bd n (M+needOf (S.take j) m) (roundM ws m (S.take j) O):=by
 intro M O j
 induction j with
 | zero=>intro _ h;simpa [roundM,needOf,sumI] using h
 | succ j ih =>
  intro hj h;have hget:S[j]?=some S[j]:=List.getElem?_eq_getElem (by omega);have h1:=ih (by omega) h;rw [roundM_snoc hget,needOf_snoc hget,<- Int.add_assoc]
  split
  ·exact step_bdW hw hl (hs _ (List.mem_of_getElem? hget)) h1
  ·rw [Int.add_zero];exact h1
def needTo (S:List Sp):Nat→Int
 | 0=>0
 | i+1=>needTo S i+needOf S ((i:Int)+1)
theorem req_bdW {n:Nat} {ws:List Int} {S:List Sp} {M:Int} {O:List Int} (hw:wsOK ws) (hl:ws.length=n) (hs:∀ s∈S,spanW n s) (h:Bd n M O):∀ i:Nat,Bd n (M+needTo S i) (reqN ws S O i)
 | 0=>by simpa [reqN,needTo] using h
 | i+1=>by
  have h1:=req_bdW hw hl hs h i;have h2:=round_bdW (m:=(i:Int)+1) hw hl hs S.length (Nat.le_refl _) h1;rw [List.take_length] at h2
  show Bd n (M+(needTo S i+needOf S ((i:Int)+1))) (roundM ws ((i:Int)+1) S (reqN ws S O i))
  rw [<- Int.add_assoc];exact h2
theorem needs_le {S:List Sp} {n:Nat} (hs:∀ s∈S,spanW n s):∀ i:Nat,needTo S i+(S.map fun s=>if s.many≤(i:Int) then 0 else s.need).foldr (·+·) 0≤(S.map fun s=>s.need).foldr (·+·) 0:=by
 intro i
 induction i with
 | zero =>
  simp only [needTo,Int.zero_add]
  induction S with
  | nil=>simp
  | cons s t ih =>
   obtain ⟨a,m,e1,e2,h1,h2,h3,h4⟩:=hs s List.mem_cons_self
   have:=ih (fun q hq=>hs q (List.mem_cons_of_mem _ hq))
   simp only [List.map_cons,List.foldr_cons]
   have p:¬ s.many≤((0:Nat):Int):=by omega
   rw [if_neg p];omega
 | succ i ih =>
  have ee:((i+1:Nat):Int)=(i:Int)+1:=by omega
  have e:needOf S ((i:Int)+1)+(S.map fun s=>if s.many≤(i:Int)+1 then 0 else s.need).foldr (·+·) 0=(S.map fun s=>if s.many≤(i:Int) then 0 else s.need).foldr (·+·) 0:=by
   clear ih hs
   induction S with
   | nil=>simp [needOf,sumI]
   | cons s t ih =>
    simp only [needOf,List.map_cons,sumI,List.foldr_cons] at ih ⊢
    by_cases h1:s.many≤(i:Int)
    ·have p1:s.many≤(i:Int)+1:=by omega
     have p2:¬ s.many=(i:Int)+1:=by omega
     rw [if_pos h1,if_pos p1,if_neg p2];omega
    ·by_cases h2:s.many=(i:Int)+1
     ·have p1:s.many≤(i:Int)+1:=by omega
      rw [if_neg h1,if_pos p1,if_pos h2];omega
     ·have p1:¬ s.many≤(i:Int)+1:=by omega
      rw [if_neg h1,if_neg p1,if_neg h2];omega
  rw [ee];simp only [needTo];omega
theorem needTo_bd {S:List Sp} {n:Nat} (hs:∀ s∈S,spanW n s) (i:Nat):needTo S i≤(S.map fun s=>s.need).foldr (·+·) 0:=by
 have h:=needs_le hs i
 have:0≤(S.map fun s=>if s.many≤(i:Int) then 0 else s.need).foldr (·+·) 0:=by
  clear h
  induction S with
  | nil=>simp
  | cons s t ih =>
   obtain ⟨a,m,e1,e2,h1,h2,h3,h4⟩:=hs s List.mem_cons_self
   have:=ih (fun q hq=>hs q (List.mem_cons_of_mem _ hq))
   simp only [List.map_cons,List.foldr_cons]
   split <;> omega
 omega
theorem needs_bd {S:List Sp} {n:Nat} {B:Int} (hB:0≤B) (hs:∀ s∈S,s.need≤B):(S.map fun s=>s.need).foldr (·+·) 0≤B*S.length:=by
 induction S with
 | nil=>simp
 | cons s t ih =>
  have h1:=hs s List.mem_cons_self;have h2:=ih (fun q hq=>hs q (List.mem_cons_of_mem _ hq));simp only [List.map_cons,List.foldr_cons,List.length_cons]
  have e:B*((t.length+1:Nat):Int)=B*(t.length:Int)+B:=by rw [Int.natCast_add,Int.mul_add];simp
  omega
theorem Bd.eachW {n:Nat} {M:Int} {O:List Int} (h:Bd n M O) (hM:M≤100000000000000):∀ x∈O,0≤x∧x≤100000000000000:=fun x hx=>by
 have h1:=h.2.1 x hx;have h2:=mem_le_sum h.2.1 x hx
 have:=h.2.2
 omega
theorem addP_zero:∀ {O P:List Int},(∀ x∈P,x=0)→addP O P=O
 | [],P,_=>by simp [addP]
 | o :: os,[],_=>rfl
 | o :: os,p :: ps,h=>by
  have:=h p List.mem_cons_self
  subst this
  simp [addP,addP_zero (fun x hx=>h x (List.mem_cons_of_mem _ hx))]
theorem addAt_zero {O P:List Int} {k:Nat} (h:∀ x∈P,x=0):addAt O k P=O:=by
 unfold addAt;rw [addP_zero h,List.take_append_drop]
theorem spread_zero {ws:List Int} (h:wsOK ws):∀ x∈spreadM 0 ws,x=0:=fun y hy=>by
 obtain ⟨k,hk,e⟩:=List.mem_iff_getElem.1 hy;have hl:=spreadM_len (n:=0) (ws:=ws);obtain ⟨y',h1,h2,h3,_⟩:=spread_get (Int.le_refl 0) h (List.getElem?_eq_getElem (show k<ws.length by omega));rw [List.getElem?_eq_getElem hk,e] at h1;obtain rfl:=Option.some.inj h1;omega
section
attribute [local go_sem 5000] run_mx run_mn
theorem cellI {w:World} {b:Nat} {cs:Array Value} {T:TypeId} {fz:Nat × Nat} (h:w.heap[b]?=some (.cells cs T fz)) (i:Nat):w.cell? ⟨b,i,none⟩=cs[i]?:=by simp [World.cell?,h]
theorem nopan_normal9 {Q:Exit→Act→World→Prop} {a:Act} {w:World} (h:Q .normal a w):NoPan Q .normal a w:=h
theorem below_grown {w w2 w':World} {g n:Nat} (hb:Below n w w2) (hg:w2.grownBy w' (some g)) (hle:n≤g) (hn:n≤w2.heap.size):Below n w w' :=
 ⟨hg.os.trans hb.os,hg.tape.trans hb.tape,hg.output.trans hb.output,Nat.le_trans hb.size hg.size,fun k hk=>(hg.block k (Nat.lt_of_lt_of_le hk hn) (fun e=>by have:=Option.some.inj e;omega)).trans (hb.block k hk)⟩
theorem sum_b (A:Option Addr) (c n:Nat) (L:List Int) (w:World) (h:NV w A L) (hn:n=L.length) (hL:n≤1048576) (hM:Smal 1000000000000000 L) :
  Calls Tryz.prog 185 #[.slice A n c] w fun e w'=>e=.returned (.int .i64 (sumI L))∧Below w.heap.size w w':=by
 refine (sum_n A c n L w h hn hL hM).mono ?_;rintro e w1 ⟨rfl,rfl⟩;exact ⟨rfl,Below.refl _ _⟩
theorem linesB_len {L:List Ln} (h:linesB L=true):1≤L.length∧L.length≤5:=by
 simp only [linesB,Bool.and_eq_true,rng_iff] at h;omega
theorem seg_sum {O:List Int} {a m:Nat} (h:∀ x∈O,0≤x∧x≤100000000000000) (ham:a+m≤O.length) (h5:O.length≤5):0≤sumI (segI O a m)∧sumI (segI O a m)≤500000000000000∧Smal 1000000000000000 (segI O a m):=by
 have hs:∀ x∈segI O a m,0≤x∧x≤100000000000000:=fun x hx=>h x (segI_mem hx)
 have h1:=sumI_bd hs;have h2:=segI_len ham;rw [h2] at h1;refine ⟨by omega,by omega,smal_of (b:=100000000000000) (fun x hx=>by have:=hs x hx;omega) (by omega) (by rw [h2];omega)⟩
theorem IB.seg {w:World} {g:Nat} {L:List Int} (h:IB w g L) (a m:Nat):NV w (some ⟨g,a,none⟩) (segI L a m):=by
 have:=NV.sub (off:=0) h.lt (fun i x hx=>by rw [Nat.zero_add];exact h.cell hx) a m
 rwa [Nat.zero_add] at this
theorem needOf_bd {S:List Sp} {n:Nat} (hs:∀ s∈S,spanW n s) (m:Int):needOf S m≤1000000000020*S.length:=by
 induction S with
 | nil=>simp [needOf,sumI]
 | cons s t ih =>
  obtain ⟨a,q,e1,e2,h1,h2,h3,h4⟩:=hs s List.mem_cons_self
  have:=ih (fun q hq=>hs q (List.mem_cons_of_mem _ hq))
  simp only [needOf,List.map_cons,sumI,List.length_cons] at this ⊢
  split <;> omega
theorem at_bd {L:List Ln} {S:List Sp} {k j:Nat} (hL:linesB L=true) (hS:spansW L.length S) (hk:k≤L.length) (hj:j≤S.length) :
  (roundM (L.map Ln.wt) ((k:Int)+1) (S.take j) (reqN (L.map Ln.wt) S (L.map Ln.mi) k)).length=L.length∧∀ x∈roundM (L.map Ln.wt) ((k:Int)+1) (S.take j) (reqN (L.map Ln.wt) S (L.map Ln.mi) k),0≤x∧x≤100000000000000:=by
 obtain ⟨hO,hW⟩:=min_bd hL;obtain ⟨h8,hs⟩:=hS;have hl:=(linesB_len hL).2;have h1:=req_bdW (S:=S) hW (by simp) hs hO k;have h2:=round_bdW (m:=(k:Int)+1) hW (by simp) hs j hj h1;have b1:=needTo_bd hs k;have b2:=needs_bd (B:=1000000000020) (n:=L.length) (by omega) (fun s h=>by obtain ⟨a,m,e1,e2,h1,h2,h3,h4⟩:=hs s h;exact h4)
 have b3:=needOf_bd (S:=S.take j) (fun s h=>hs s (List.mem_of_mem_take h)) ((k:Int)+1)
 have b4:(S.take j).length≤10:=by rw [List.length_take];omega
 exact ⟨h2.1,h2.eachW (by omega)⟩
theorem lineRequests_w (A:Option Addr) (c:Nat) (L:List Ln) (A':Option Addr) (c':Nat) (S:List Sp) (w:World) (h:LnV w A L) (hL:linesB L=true) (h':SpV w A' S) (hS:spansW L.length S) :
  Calls Tryz.prog 184 #[.slice A L.length c,.slice A' S.length c'] w fun e w'=>e=.returned (.slice (some ⟨w.heap.size,0,none⟩) L.length L.length)∧IB w' w.heap.size (wishM L S)∧Below w.heap.size w w':=by
 obtain ⟨hl1,hl5⟩:=linesB_len hL;obtain ⟨hs8,hsa⟩:=id hS;have hww:=(min_bd hL).2;have HL:=hD hL;have HS:=hD hS;have HSA:=hD hsa;have HWW:=hD hww;clear hL hS hsa hww
 go_enter Tryz.func184,Tryz.ntmps184
 go_wp2_with fail
 with_reducible refine (each_least A c L _ h (by omega)).mono ?_
 rintro e w1 ⟨rfl,hI1,hb1⟩;have HLV:=hD (h.keep hb1)
 go_wp2_with fail
 with_reducible refine (each_weight A c L _ HLV.out (by omega)).mono ?_
 rintro e w2 ⟨rfl,hI2,hb2⟩;have HI:=hD (hI1.keep hb2);have HB:=hD (bkeep2 hb1 hb2);have hg:w.heap.size<w1.heap.size:=hI1.lt;clear HLV hb1 hb2 hI1;generalize w1.heap.size=g2 at hI2 hg ⊢;have HW:=hD hI2;clear hI2
 go_wp2_with fail
 go_loopw [18] (fun i wr=>∃ k:Nat,k≤L.length∧i=.int .i64 k∧IB wr w.heap.size (reqN (L.map Ln.wt) S (L.map Ln.mi) k)∧IB wr g2 (L.map Ln.wt)∧Below w.heap.size w wr) (fun i _=>L.length-(intOf i).toNat)
 case atStart=>exact ⟨0,by omega,rfl,HI.out,HW.out,HB.out⟩
 case round =>
  obtain ⟨k,hk,rfl,hI,hWr,hBr⟩:=hrel;clear HI HW HB
  by_cases hlt:k<L.length
  ·have hd:decide ((k:Int)<(L.length:Int))=true:=by simpa using hlt
   have HI:=hD hI;have HW:=hD hWr;have HB:=hD hBr;clear hI hWr hBr
   go_wp2_with fail
   go_loopw [23] (fun i wr=>∃ j:Nat,j≤S.length∧i=.int .i64 j∧IB wr w.heap.size (roundM (L.map Ln.wt) ((k:Int)+1) (S.take j) (reqN (L.map Ln.wt) S (L.map Ln.mi) k))∧IB wr g2 (L.map Ln.wt)∧Below w.heap.size w wr) (fun i _=>S.length-(intOf i).toNat)
   case atStart=>exact ⟨0,by omega,rfl,HI.out,HW.out,HB.out⟩
   case round =>
    obtain ⟨j,hj,rfl,hI,hWr,hBr⟩:=hrel;clear HI HW HB
    by_cases hjl:j<S.length
    ·have hd2:decide ((j:Int)<(S.length:Int))=true:=by simpa using hjl
     obtain ⟨b',off,rfl,hb',hp⟩:=(h'.keep hBr).cells (by omega);have hget:S[j]?=some S[j]:=List.getElem?_eq_getElem hjl;obtain ⟨c0,c1,c2⟩:=hp j _ hget;have hsp:=HSA.out _ (List.mem_of_getElem? hget);have hro:=roundM_snoc (ws:=L.map Ln.wt) (m:=(k:Int)+1) (O:=reqN (L.map Ln.wt) S (L.map Ln.mi) k) hget;obtain ⟨a,m,e1,e2,hm1,ham,hn0,hn50⟩:=hsp;obtain ⟨hol,hob⟩:=at_bd HL.out HS.out hk hj
     generalize S[j]=s at *;obtain ⟨sa,many,need⟩:=s
     dsimp only at e1 e2 hn0 hn50 c0 c1 c2
     subst e1 e2;generalize roundM (L.map Ln.wt) ((k:Int)+1) (S.take j) (reqN (L.map Ln.wt) S (L.map Ln.mi) k)=O at *;have HI:=hD hI;have HW:=hD hWr;have HB:=hD hBr;have HOB:=hD hob;have HOL:=hD hol;clear hI hWr hBr hp hget hob hol
     by_cases hmk:(m:Int)=(k:Int)+1
     ·have hz:((m:Int) == (k:Int)+1)=true:=by simpa using hmk
      have hmn:m=k+1:=by omega
      subst hmn;have HRO:=hD hro;clear hro
      have hal:¬ L.length=a:=by omega
      have hq1:0≤(a:Int)+((k:Int)+1):=by omega
      have hq2:(a:Int)+((k:Int)+1)≤(L.length:Int):=by omega
      have hq3:((a:Int)+((k:Int)+1)).toNat=a+(k+1):=by omega
      have hq4:a≤a+(k+1):=by omega
      have hq5:a+(k+1)-a=k+1:=by omega
      obtain ⟨hm0,hm5,hsm⟩:=seg_sum HOB.out (a:=a) (m:=k+1) (by rw [HOL.out];exact ham) (by rw [HOL.out];exact hl5);have HSM:=hD hsm;have HSL:=hD (segI_len (O:=O) (a:=a) (m:=k+1) (by rw [HOL.out];exact ham)).symm;clear hz hsm
      have hz:(((k+1:Nat):Int) == (k:Int)+1)=true:=by simp
      go_wp2_with fail
      refine wp_region_grow 9 1 (·<9) (by kernel_rfl) (by kernel_rfl) rfl ?_
      iterate 9 (refine wpG_step (fun K hK=>?_);first|(refine grow_skip rfl ?_;go_simp;refine hK _ ?_;clear hK K)|(apply Exists.intro;refine ⟨.inl ⟨rfl,fun w' hw'=>?_⟩,?_⟩;(focus ((obtain ⟨hc,hf⟩:=bcell hw'.out);(have hcS:=bcellS hw'.out);go_simp <;> first | rfl|(go_at_call 185;exact sum_b _ _ (k+1) (segI O a (k+1)) _ ((HI.out.keep (bkeep2 (balloc (Below.refl _ _)) (bdrewn hw'.out))).seg a (k+1)) HSL.out (by omega) HSM.out)));(go_simp;refine hK _ ?_;clear hK K)))
      refine wpG_nil ?_;refine wpK_tail (by kernel_rfl) (fun w3 hg3=>?_);have hb3:=bdrewn hg3.out;obtain ⟨hc3,hf3⟩:=bcell hb3;refine wpAny_one (i:=9) (by kernel_rfl) rfl rfl ?_;go_simp;refine wpAny_end (by kernel_rfl) ?_;refine NoPan.thn ?_;clear hc3 hf3;clear hg3
      have hx:w3.heap[wr.heap.size]?=some (.cells #[.int .i64 (a:Int),.int .i64 ((k:Int)+1),.int .i64 need] 193 (0,0)):=(hb3.block _ (by simp)).trans (heap_alloc_new _ _);have HI3:=hD (HI.out.keep (bkeep2 (balloc (Below.refl _ _)) hb3));have HW3:=hD (HW.out.keep (bkeep2 (balloc (Below.refl _ _)) hb3));have HB3:=hD (bkeep2 (balloc HB.out) hb3);have hxl:=(gE hx).1
      obtain ⟨x0,x1,x2⟩:w3.cell? ⟨wr.heap.size,0,none⟩=some (.int .i64 (a:Int))∧w3.cell? ⟨wr.heap.size,1,none⟩=some (.int .i64 ((k:Int)+1))∧w3.cell? ⟨wr.heap.size,2,none⟩=some (.int .i64 need):=⟨cellI hx 0,cellI hx 1,cellI hx 2⟩
      obtain ⟨q,hqe⟩:∃ q,sumI (segI O a (k+1))=q:=⟨_,rfl⟩
      rw [hqe] at hm0 hm5;rw [hqe];have HQ:=hD hqe;have mx1:=mx_spec (need-q) 0
      have hmx0:0≤mx (need-q) 0:=by omega
      have hmx1:mx (need-q) 0≤100000000000000:=by omega
      have hqw:IntKind.i64.wrap (need-q)=need-q:=IntWalk.i64_in _ (by omega);clear HI HW HB hb3 hx hqe c0 c1 c2 mx1;generalize wr.heap.size=bx at *
      go_wp2_with fail
      refine wp_region_grow 12 1 (·<12) (by kernel_rfl) (by kernel_rfl) rfl ?_
      iterate 12 (refine wpG_step (fun K hK=>?_);first|(refine grow_skip rfl ?_;go_simp;refine hK _ ?_;clear hK K)|(apply Exists.intro;refine ⟨.inl ⟨rfl,fun w' hw'=>?_⟩,?_⟩;(focus ((obtain ⟨hc,hf⟩:=bcell hw'.out);(have hcS:=bcellS hw'.out);go_simp <;> rfl));(go_simp;refine hK _ ?_;clear hK K)))
      refine wpG_nil ?_;refine wpK_tail (by kernel_rfl) (fun w4 hg4=>?_);have hb4:=bdrewn hg4.out;refine wpAny_one (i:=12) (by kernel_rfl) rfl rfl ?_;go_simp;have HI4:=hD (HI3.out.keep hb4);have HW4:=hD (HW3.out.keep hb4);have HB4:=hD (bkeep2 HB3.out hb4);clear HI3 HW3 HB3 hb4 hg4 x0 x1 x2;have hsl:k+1=(segI (L.map Ln.wt) a (k+1)).length:=(segI_len (by rw [List.length_map];exact ham)).symm
      refine (enlarge_v w.heap.size a (k+1) _ _ _ O (segI (L.map Ln.wt) a (k+1)) _ _ HI4.out hsl (by rw [HOL.out];exact ham) HOB.out (HW4.out.seg a (k+1)) (seg_ok HWW.out (by omega) (by rw [List.length_map];exact ham)) hmx0 hmx1).mono ?_;rintro e w5 ⟨⟨v,rfl⟩,hi5,hg5⟩;have HW5:=hD (HW4.out.but hg5 (by omega));have HB5:=hD (below_grown HB4.out hg5 (Nat.le_refl _) HB4.out.size)
      have hst:stepM (L.map Ln.wt) O ⟨(a:Int),((k+1:Nat):Int),need⟩=addAt O a (spreadM (mx (need-q) 0) (segI (L.map Ln.wt) a (k+1))):=by
       unfold stepM;rw [<- HQ.out]
       rfl
      rw [<- hst] at hi5;have HI5:=hD hi5;clear hi5 hst hg5 HI4 HW4 HB4
      dsimp only
      refine wpAny_end (by kernel_rfl) ?_;refine nopan_normal9 ?_;go_wp2
      go_roundw
      case rel=>exact ⟨j+1,by omega,by go_num,by rw [HRO.out,if_pos (by simp)];exact HI5.out,HW5.out,HB5.out⟩
      case measure=>simp [intOf];omega
     ·have hz:((m:Int) == (k:Int)+1)=false:=by simpa using hmk
      rw [if_neg hmk] at hro;have HRO:=hD hro;have HB:=hD (balloc (o:=(.cells #[.int .i64 (a:Int),.int .i64 (m:Int),.int .i64 need] 193 (0,0))) HB.out);have HI:=hD (HI.out.keep (balloc (o:=(.cells #[.int .i64 (a:Int),.int .i64 (m:Int),.int .i64 need] 193 (0,0))) (Below.refl _ _)))
      have HW:=hD (HW.out.keep (balloc (o:=(.cells #[.int .i64 (a:Int),.int .i64 (m:Int),.int .i64 need] 193 (0,0))) (Below.refl _ _)));clear hro;go_wp2
      go_roundw
      case rel=>exact ⟨j+1,by omega,by go_num,by rw [HRO.out];exact HI.out,HW.out,HB.out⟩
      case measure=>simp [intOf];omega
    ·have hd2:decide ((j:Int)<(S.length:Int))=false:=decide_eq_false (by omega);have he:S.take j=S:=List.take_of_length_le (by omega);rw [he] at hI;have HI:=hD hI;have HW:=hD hWr;have HB:=hD hBr;clear hI hWr hBr he;go_wp2
     go_roundw
     case rel=>exact ⟨k+1,by omega,by go_num,HI.out,HW.out,HB.out⟩
     case measure=>simp [intOf];omega
  ·have hd:decide ((k:Int)<(L.length:Int))=false:=decide_eq_false (by omega)
   obtain rfl:k=L.length:=by omega
   have HI:=hD hI;have HB:=hD hBr;clear hI hBr hWr;go_wp2;go_ret;exact ⟨rfl,HI.out,HB.out⟩
theorem wish_bdW {L:List Ln} {S:List Sp} (hL:linesB L=true) (hS:spansW L.length S):Bd L.length (150+(S.map fun s=>s.need).foldr (·+·) 0) (wishM L S):=by
 obtain ⟨hO,hW⟩:=min_bd hL;have h1:=req_bdW (S:=S) hW (by simp) hS.2 hO L.length;have b1:=needTo_bd hS.2 L.length;exact ⟨h1.1,h1.2.1,by have:=h1.2.2;show sumI (reqN _ _ _ _)≤_;omega⟩
theorem wish_smalW {L:List Ln} {S:List Sp} (hL:linesB L=true) (hS:spansW L.length S):Smal 1000000000000000 (wishM L S)∧(wishM L S).length=L.length:=by
 have h:=wish_bdW hL hS;have hl:=(linesB_len hL).2;have b2:=needs_bd (n:=L.length) (S:=S) (B:=1000000000020) (by omega) (fun s h=>by obtain ⟨a,m,e1,e2,h1,h2,h3,h4⟩:=hS.2 s h;exact h4);have hS8:=hS.1;have hx:=h.eachW (by omega);exact ⟨smal_of (b:=100000000000000) (fun x hx'=>by have:=hx x hx';omega) (by omega) (by rw [h.1];omega),h.1⟩
end
def nvalsW (L:List Int):List Value:=L.map (Value.int .i64)
theorem nvalsW_snoc (L:List Int) (x:Int):nvalsW L ++ [.int .i64 x]=nvalsW (L ++ [x]):=by simp [nvalsW]
def OB (w:World) (g cap:Nat) (L:List Int):Prop:=L.length≤cap∧∃ cs:Array Value,w.heap[g]?=some (.cells cs 3 (0,0))∧cs.size=cap∧∀ (i:Nat) (x:Int),L[i]?=some x→cs[i]?=some (Value.int .i64 x)
theorem OB.lt {w:World} {g cap:Nat} {L:List Int} (h:OB w g cap L):g<w.heap.size:=by obtain ⟨_,cs,hh,_⟩:=h;exact ltS hh
theorem OB.keep {w w':World} {g cap:Nat} {L:List Int} (h:OB w g cap L) (hb:Below w.heap.size w w'):OB w' g cap L:=by
 obtain ⟨hl,cs,hh,hs,hc⟩:=h;exact ⟨hl,cs,(hb.block g (ltS hh)).trans hh,hs,hc⟩
theorem OB.cell {w:World} {g cap i:Nat} {L:List Int} {x:Int} (h:OB w g cap L) (hx:L[i]?=some x):w.cell? ⟨g,i,none⟩=some (.int .i64 x):=by
 obtain ⟨hl,cs,hh,hs,hc⟩:=h;exact (cellS hh i).trans (hc i x hx)
theorem OB.frozen {w:World} {g cap:Nat} {L:List Int} (h:OB w g cap L) (i:Nat):w.frozen? ⟨g,i,none⟩=false:=by
 obtain ⟨hl,cs,hh,hs,hc⟩:=h;exact frozenS hh i
theorem OB.set {w:World} {g cap:Nat} {L:List Int} (h:OB w g cap L) (i:Nat) (y:Int) (hi:i<L.length):OB (w.setCell ⟨g,i,none⟩ (.int .i64 y)) g cap (L.set i y):=by
 obtain ⟨hl,cs,hh,hs,hc⟩:=h;refine ⟨by rw [List.length_set];exact hl,_,putS hh _,by simp [hs],fun k x hk=>?_⟩
 by_cases e:i=k
 ·subst e;rw [List.getElem?_set_self hi] at hk;obtain rfl:=Option.some.inj hk;rw [Array.getElem?_setIfInBounds_self_of_lt (by omega)]
 ·rw [List.getElem?_set_ne e] at hk;rw [Array.getElem?_setIfInBounds_ne e];exact hc k x hk
theorem OB.nv {w:World} {g cap:Nat} {L:List Int} (h:OB w g cap L):NV w (some ⟨g,0,none⟩) L :=
 ⟨fun _=>⟨g,0,rfl,h.lt,fun i x hx=>by rw [Nat.zero_add];exact h.cell hx⟩⟩
theorem own_inW {w:World} {base n:Nat} {v:Value} {M:List Int} (h:w.ownsRow base 3 1 v n (nvalsW M)) (hn:n=M.length) :
  (v=.slice none 0 0∧M=[])∨∃ g cap,v=.slice (some ⟨g,0,none⟩) n cap∧base≤g∧OB w g cap M:=by
 rcases h.2 with ⟨rfl,h0⟩ | ⟨g,cap,cur,rfl,hb,hg,hc,_,hs,ht⟩
 ·exact .inl ⟨rfl,List.length_eq_zero_iff.1 (by omega)⟩
 ·refine .inr ⟨g,cap,rfl,hb,by omega,cur,hg,by omega,fun i x hx=>?_⟩
  have e:(nvalsW M)[i]?=some (Value.int .i64 x):=by simp [nvalsW,hx]
  have hi:=(List.getElem?_eq_some_iff.1 hx).1;rw [<- ht,List.getElem?_take] at e;rw [if_pos (by omega)] at e
  simpa using e
theorem int_infoW:∃ (i:TypeInfo) (z:Value),Tryz.prog.info? 3=some i∧i.zero=some z∧i.size=1∧i.bytes=8∧z.cells.size=1:=by
 have hinfo:(Tryz.prog.info? 3).map (fun i=>(i.zero,i.size,i.bytes))=some (some (.int .i64 0),1,8):=by kernel_rfl
 obtain ⟨i,hi,h1,h2,h3⟩:=info_parts hinfo;exact ⟨i,_,hi,h1,h2,h3,rfl⟩
theorem newW (W:World) (x:Int) (T:TypeId):∀ (j:Nat) (u:Value),[Value.int .i64 x][j]?=some u→(W.alloc (.cells #[.int .i64 x] T)).cell? ((⟨W.heap.size,0,none⟩:Addr).add j)=some u:=fun j u h=>by
 have hadd:(⟨W.heap.size,0,none⟩:Addr).add j=⟨W.heap.size,j,none⟩:=by unfold Addr.add;split <;> simp_all
 rw [hadd];exact (cellS (newS W _) j).trans (by simpa using h)
theorem below_own {n:Nat} {a W w5:World} {v:Value} {o:Obj} {lo hi:Nat} (h:Below n a W) (hg:(W.alloc o).grownBy w5 v.ownBlock) (hob:∀ k,v.ownBlock=some k→lo≤k∧k<hi) (hlo:n≤lo) (hn:n≤a.heap.size):Below n a w5 :=
 have h':Below n a (W.alloc o):=h.alloc (Nat.le_trans hn h.size) o
 ⟨hg.os.trans h'.os,hg.tape.trans h'.tape,hg.output.trans h'.output,Nat.le_trans h'.size hg.size,fun k hk=>(hg.block k (Nat.lt_of_lt_of_le (Nat.lt_of_lt_of_le hk hn) h'.size) (fun e=>by have:=hob k e.symm;omega)).trans (h'.block k hk)⟩
section
attribute [local go_sem 5000] run_mx run_mn
theorem OB.seg {w:World} {g cap:Nat} {L:List Int} (h:OB w g cap L) (a m:Nat):NV w (some ⟨g,a,none⟩) (segI L a m):=by
 have:=NV.sub (off:=0) h.lt (fun i x hx=>by rw [Nat.zero_add];exact h.cell hx) a m
 rwa [Nat.zero_add] at this
theorem LnV.sub {w:World} {b off:Nat} {L:List Ln} (hb:b<w.heap.size) (h:∀ i p,L[i]?=some p→w.cell? ⟨b,off+i*2,none⟩=some (.int .i64 p.wt)∧w.cell? ⟨b,off+i*2+1,none⟩=some (.int .i64 p.mi)) (i j:Nat):LnV w (some ⟨b,off+i*2,none⟩) ((L.drop i).take j) :=
 ⟨fun _=>⟨b,off+i*2,rfl,hb,fun k x hx=>by
  rw [List.getElem?_take] at hx
  split at hx
  ·rw [List.getElem?_drop] at hx
   have:=h (i+k) x hx
   rwa [show off+(i+k)*2=off+i*2+k*2 from by omega] at this
  ·cases hx⟩⟩
theorem take_snocF {α:Type} {f:α→Int} {L:List α} {k:Nat} {x:α} (h:L[k]?=some x):(L.map f).take (k+1)=(L.map f).take k ++ [f x]:=by
 obtain ⟨hk,e⟩:=List.getElem?_eq_some_iff.1 h;rw [List.take_succ_eq_append_getElem (by simpa using hk)]
 simp [e]
theorem weightsOf_v (A:Option Addr) (c n:Nat) (L:List Ln) (w:World) (h:LnV w A L) (hn:n=L.length) (hL:L.length≤8) :
  Calls Tryz.prog 141 #[.slice A n c] w fun e w'=>(∃ A' c',e=.returned (.slice A' n c')∧NV w' A' (L.map Ln.wt))∧Below w.heap.size w w':=by
 subst hn;obtain ⟨ti,tz,ti1,ti2,ti3,ti4,ti5⟩:=int_infoW
 go_enter Tryz.func141,Tryz.ntmps141
 go_wp2_with fail
 have ho0:(w.alloc (.cells #[] 3 (0,0))).ownsRow w.heap.size 3 1 (.slice (some ⟨w.heap.size,0,none⟩) 0 0) 0 (nvalsW []):=World.ownsRow_lit (base:=w.heap.size) (e:=3) (size:=1) w #[] 0 (Nat.le_refl _) (by decide) rfl;have HO:=hD ho0;have HB:=hD (balloc (o:=(.cells #[] 3 (0,0))) (Below.refl w.heap.size w));clear ho0
 go_loopw [3,4] (fun out i wr=>∃ k:Nat,k≤L.length∧i=.int .i64 k∧wr.ownsRow w.heap.size 3 1 out k (nvalsW ((L.map Ln.wt).take k))∧Below w.heap.size w wr) (fun _ i _=>L.length-(intOf i).toNat)
 case atStart=>exact ⟨0,by omega,rfl,HO.out,HB.out⟩
 case round =>
  obtain ⟨k,hk,rfl,ho,hB⟩:=hrel;clear HO HB
  by_cases hlt:k<L.length
  ·have hd:decide ((k:Int)<(L.length:Int))=true:=by simpa using hlt
   obtain ⟨b,off,rfl,hb,hp⟩:=(h.keep hB).cells (by omega);have hget:L[k]?=some L[k]:=List.getElem?_eq_getElem hlt;obtain ⟨c0,c1⟩:=hp k _ hget;have hts:=take_snocF (f:=Ln.wt) hget;generalize L[k]=x at *;have hob:=ho.lt;have hw3:w.heap.size≤wr.heap.size:=hB.size;have HO:=hD ho;have HB:=hD hB;have HTS:=hD hts;clear ho hB hts hp hget
   go_wp2_with (at_builtin;refine wpList_append_own _ rfl _ _ 26 rfl w.heap.size 3 ti tz 1 8 Tryz.underlying26 ti1 ti2 ti3 ti4 ti5 (by decide) _ _ _ rfl (HO.out.alloc _) ⟨wr.heap.size,0,none⟩ 1 1 [.int .i64 x.wt] rfl rfl (newW _ _ _) (by simp [Value.oneCell']) (by simp only [maxLen];omega) (by omega) (by simp;omega) ?_)
   intro v5 w5 how5 hgr5 _;rw [nvalsW_snoc,<- HTS.out] at how5;replace HB:=hD (below_own HB.out hgr5 hob (Nat.le_refl _) (Nat.le_refl _));replace HO:=hD how5;clear how5 hgr5 hob c0 c1;go_wp2
   go_roundw
   case rel=>exact ⟨k+1,by omega,by go_num,by simpa using HO.out,HB.out⟩
   case measure=>simp [intOf];omega
  ·have hd:decide ((k:Int)<(L.length:Int))=false:=decide_eq_false (by omega)
   obtain rfl:k=L.length:=by omega
   have he:(L.map Ln.wt).take L.length=L.map Ln.wt:=List.take_of_length_le (by simp);rw [he] at ho;have HB:=hD hB
   rcases own_inW ho (by simp) with ⟨rfl,hM⟩ | ⟨g,cap,rfl,hbg,hO⟩
   ·have hL0:L.length=0:=by simpa using congrArg List.length hM
    have HM:=hD hM;have HL0:=hD hL0;clear ho hB hM hL0 he;go_wp2;go_ret;exact ⟨⟨none,0,by rw [HL0.out];rfl,⟨fun h0=>absurd h0 (by rw [HM.out];simp)⟩⟩,HB.out⟩
   ·have HO:=hD hO.nv;clear ho hB hO he;go_wp2;go_ret;exact ⟨⟨_,cap,rfl,HO.out⟩,HB.out⟩
end
theorem own_bw {w w':World} {base:Nat} {e:TypeId} {size:Nat} {v:Value} {n:Nat} {xs:List Value} (h:w.ownsRow base e size v n xs) (hb:Below w.heap.size w w'):w'.ownsRow base e size v n xs :=
 h.kept (row:=none) ⟨hb.os,hb.tape,hb.output,hb.size,fun k hk _=>hb.block k hk⟩ (by cases v.ownBlock <;> simp)
def idsN (f:Nat→Bool) (n:Nat):List Nat:=(List.range n).filter f
def idsM (f:Nat→Bool) (n:Nat):List Int:=(idsN f n).map (fun (k:Nat)=>(k:Int))
theorem idsM_yes {f:Nat→Bool} {k:Nat} (h:f k=true):idsM f (k+1)=idsM f k ++ [(k:Int)]:=by simp [idsM,idsN,List.range_succ,List.filter_append,h]
theorem idsM_no {f:Nat→Bool} {k:Nat} (h:f k=false):idsM f (k+1)=idsM f k:=by simp [idsM,idsN,List.range_succ,List.filter_append,h]
theorem idsM_len (f:Nat→Bool) (k:Nat):(idsM f k).length≤k:=by
 unfold idsM idsN;rw [List.length_map];exact Nat.le_trans (List.length_filter_le _ _) (by simp)
def KdV (w:World) (v:Value) (L:List Int):Prop:=∃ A c,v=.slice A L.length c∧NV w A L∧L.length≤c
theorem KdV.of {w:World} {base:Nat} {v:Value} {L:List Int} (h:w.ownsRow base 3 1 v L.length (nvalsW L)):KdV w v L:=by
 rcases own_inW h rfl with ⟨rfl,hM⟩ | ⟨g,cap,rfl,hbg,hO⟩
 ·exact ⟨none,0,by rw [hM];rfl,⟨fun h0=>absurd h0 (by rw [hM];simp)⟩,by rw [hM];simp⟩
 ·exact ⟨_,cap,rfl,hO.nv,hO.1⟩
theorem indicesG_v (G:Nat) (hE:∀ args w,(callFunc G args).run Tryz.prog w=.ok (.enter G args) w) (n:Nat) (f:Nat→Bool) (caps:Array Value) (w:World) (hn:n≤1048576)
  (hf:∀ k,k<n→∀ W,Below w.heap.size w W→Calls Tryz.prog G (#[.int .i64 (k:Int)] ++ caps) W fun e W'=>e=.returned (.bool (f k))∧Below W.heap.size W W') :
  Calls Tryz.prog 48 #[.int .i64 (n:Int),.func (.func G) #[] caps] w fun e w'=>(∃ v,e=.returned v∧w'.ownsRow w.heap.size 3 1 v (idsM f n).length (nvalsW (idsM f n)))∧Below w.heap.size w w':=by
 obtain ⟨ti,tz,ti1,ti2,ti3,ti4,ti5⟩:=int_infoW;have HF:=hD hf;clear hf;refine calls_abs Tryz.func48 rfl 20 (by simp only [Tryz.ntmps48]) (by simp) (fun t hsz hargs=>?_);have q0:t[0]?=some (.int .i64 (n:Int)):=get_of (by omega) (hargs 0 _ rfl);have q1:t[1]?=some (.func (.func G) #[] caps):=get_of (by omega) (hargs 1 _ rfl);clear hargs;obtain ⟨l0,e0⟩:=gE q0;obtain ⟨l1,e1⟩:=gE q1
 refine wp_seq_h fun K hK=>?_
 apply wp_region_lit
 repeat (first | go_step)
 refine hK.out _ _ ?_;clear hK K;refine wp_abw (fun t' W'=>t'.size=20∧t'[0]?=some (.int .i64 (n:Int))∧t'[1]?=some (.func (.func G) #[] caps)∧w=W') ⟨by simp [hsz],by simp [q0],by simp [q1],rfl⟩ ?_;clear hsz q0 l0 e0 q1 l1 e1 t;rintro t _ ⟨hsz,q0,q1,rfl⟩;obtain ⟨l0,e0⟩:=gE q0;obtain ⟨l1,e1⟩:=gE q1
 refine wp_seq_h fun K hK=>?_
 apply wp_region_lit
 repeat (first | go_step)
 refine hK.out _ _ ?_;clear hK K;refine wp_abw (fun t' W'=>t'.size=20∧t'[0]?=some (.int .i64 (n:Int))∧t'[1]?=some (.func (.func G) #[] caps)∧t'[5]?=some (.slice none 0 0)∧w=W') ⟨by simp [hsz],by simp [q0],by simp [q1],by simp [hsz],rfl⟩ ?_;clear hsz q0 l0 e0 q1 l1 e1 t;rintro t _ ⟨hsz,q0,q1,q5,rfl⟩
 refine wp_seq_h fun KE hKE=>?_
 obtain ⟨l0,e0⟩:=gE q0;obtain ⟨l1,e1⟩:=gE q1;obtain ⟨l5,e5⟩:=gE q5
 refine wp_seq_h fun K hK=>?_
 apply wp_region_lit
 repeat (first | go_step)
 refine hK.out _ _ ?_;clear hK K;refine wp_abw (fun t' W'=>t'.size=20∧t'[1]?=some (.func (.func G) #[] caps)∧t'[5]?=some (.slice none 0 0)∧t'[7]?=some (.int .i64 (n:Int))∧t'[8]?=some (.int .i64 ((0:Nat):Int))∧w=W') ⟨by simp [hsz],by simp [q1],by simp [q5],by simp [hsz],by simp [hsz],rfl⟩ ?_;clear hsz q0 l0 e0 q1 l1 e1 q5 l5 e5 t;rintro t _ ⟨hsz,q1,q5,q7,q8,rfl⟩;apply wp_block
 refine wp_loop (fun a W=>∃ (t:Array Value) (k:Nat) (v:Value),a=⟨t,[]⟩∧k≤n∧t.size=20∧t[1]?=some (.func (.func G) #[] caps)∧t[5]?=some (v)∧t[7]?=some (.int .i64 (n:Int))∧t[8]?=some (.int .i64 (k:Int))∧W.ownsRow w.heap.size 3 1 v (idsM f k).length (nvalsW (idsM f k))∧Below w.heap.size w W) (fun a _=>n-(intOf (a.tmps.getD 8 undef)).toNat) ⟨t,0,.slice none 0 0,rfl,by omega,hsz,q1,q5,q7,q8,⟨rfl,.inl ⟨rfl,rfl⟩⟩,Below.refl _ _⟩ ?_
 clear t hsz q1 q5 q7 q8;rintro a W ⟨t,k,v,rfl,hk,hsz,q1,q5,q7,q8,hO,hB⟩
 have hmu:intOf (t.getD 8 undef)=(k:Int):=by rw [Array.getD_eq_getD_getElem?,q8];rfl
 dsimp only
 rw [hmu];clear hmu;have HO:=hD hO;have HB:=hD hB;clear hO hB
 by_cases hlt:k<n
 ·have hd:decide ((k:Int)<(n:Int))=true:=by simpa using hlt
  obtain ⟨l1,e1⟩:=gE q1;obtain ⟨l5,e5⟩:=gE q5;obtain ⟨l7,e7⟩:=gE q7;obtain ⟨l8,e8⟩:=gE q8
  refine wp_seq_h fun K hK=>?_
  apply wp_region_lit
  repeat (first | go_step)
  refine hK.out _ _ ?_;clear hK K;refine wp_abw (fun t' W'=>t'.size=20∧t'[1]?=some (.func (.func G) #[] caps)∧t'[5]?=some (v)∧t'[7]?=some (.int .i64 (n:Int))∧t'[8]?=some (.int .i64 (k:Int))∧t'[9]?=some (.bool true)∧W=W') ⟨by simp [hsz],by simp [q1],by simp [q5],by simp [q7],by simp [q8],by simp [hsz,hd],rfl⟩ ?_;clear hsz q1 l1 e1 q5 l5 e5 q7 l7 e7 q8 l8 e8 t;rintro t _ ⟨hsz,q1,q5,q7,q8,q9,rfl⟩
  clear hd
  refine wp_seq_h fun K1 hK1=>?_
  refine wp_cond_true (by simp [Act.eval,q9]) ?_;apply wp_skip;simp only [Exit.then];refine hK1.out _ _ ?_;clear hK1 K1 q9
  refine wp_seq_h fun KB hKB=>?_
  apply wp_block;obtain ⟨l1,e1⟩:=gE q1;obtain ⟨l5,e5⟩:=gE q5;obtain ⟨l7,e7⟩:=gE q7;obtain ⟨l8,e8⟩:=gE q8
  refine wp_seq_h fun K hK=>?_
  apply wp_region_lit
  repeat (first | go_step)
  refine hK.out _ _ ?_;clear hK K;refine wp_abw (fun t' W'=>t'.size=20∧t'[1]?=some (.func (.func G) #[] caps)∧t'[5]?=some (v)∧t'[6]?=some (.int .i64 (k:Int))∧t'[7]?=some (.int .i64 (n:Int))∧t'[8]?=some (.int .i64 (k:Int))∧W=W') ⟨by simp [hsz],by simp [q1],by simp [q5],by simp [hsz],by simp [q7],by simp [q8],rfl⟩ ?_;clear hsz q1 l1 e1 q5 l5 e5 q7 l7 e7 q8 l8 e8 t;rintro t _ ⟨hsz,q1,q5,q6,q7,q8,rfl⟩
  obtain ⟨l1,e1⟩:=gE q1;obtain ⟨l5,e5⟩:=gE q5;obtain ⟨l6,e6⟩:=gE q6;obtain ⟨l7,e7⟩:=gE q7;obtain ⟨l8,e8⟩:=gE q8;have hlen:=idsM_len f k
  refine wp_seq_h fun K hK=>?_
  apply wp_region_lit
  repeat go_step
  refine (HF.out k hlt _ HB.out).mono ?_;rintro e W1 ⟨rfl,hb1⟩
  dsimp only
  repeat go_step
  refine hK.out _ _ ?_;clear hK K;have hob:=HO.out.lt;replace HO:=hD (own_bw HO.out hb1);replace HB:=hD (bkeep2 HB.out hb1);have hs1:=hb1.size;clear hb1
  refine wp_abw (fun t' W'=>t'.size=20∧t'[1]?=some (.func (.func G) #[] caps)∧t'[5]?=some (v)∧t'[6]?=some (.int .i64 (k:Int))∧t'[7]?=some (.int .i64 (n:Int))∧t'[8]?=some (.int .i64 (k:Int))∧t'[13]?=some (.bool (f k))∧W1=W') ⟨by simp [hsz],by simp [q1],by simp [q5],by simp [q6],by simp [q7],by simp [q8],by simp [hsz],rfl⟩ ?_;clear hsz q1 l1 e1 q5 l5 e5 q6 l6 e6 q7 l7 e7 q8 l8 e8 t
  rintro t _ ⟨hsz,q1,q5,q6,q7,q8,q13,rfl⟩;obtain ⟨l1,e1⟩:=gE q1
  by_cases hfk:f k=true
  ·have hids:=idsM_yes hfk;rw [hfk] at q13;refine wp_cond_true (by simp [Act.eval,q13]) ?_;clear l1 e1 q13;obtain ⟨l1,e1⟩:=gE q1;obtain ⟨l5,e5⟩:=gE q5;obtain ⟨l6,e6⟩:=gE q6;obtain ⟨l7,e7⟩:=gE q7;obtain ⟨l8,e8⟩:=gE q8;have hob:∀ b,v.ownBlock=some b→w.heap.size≤b∧b<W1.heap.size:=HO.out.lt;have hw1:w.heap.size≤W1.heap.size:=HB.out.size;apply wp_region_lit
   repeat (first|((with_reducible show wpList _ _ _ _ _ _);refine wpList_append_own _ rfl _ _ 26 rfl w.heap.size 3 ti tz 1 8 Tryz.underlying26 ti1 ti2 ti3 ti4 ti5 (by decide) v _ _ (by simp [Act.eval,Act.put,hsz,e5]) (HO.out.alloc _) ⟨W1.heap.size,0,none⟩ 1 1 [.int .i64 (k:Int)] (by simp [Act.eval,Act.put,hsz]) rfl (newW _ _ _) (by simp [Value.oneCell']) (by simp only [maxLen];omega) (by omega) (by simp;omega) ?_) | go_step)
   intro v5 w5 how5 hgr5 _;have hb5:=below_own HB.out hgr5 hob (Nat.le_refl _) (Nat.le_refl _);rw [nvalsW_snoc,<- hids] at how5
   have hlen5:(idsM f k).length+1=(idsM f (k+1)).length:=by rw [hids];simp
   rw [hlen5] at how5;clear hlen5 hids
   repeat go_step
   try simp only [Exit.inBlock]
   refine hKB.out _ _ ?_;clear hKB KB;refine wp_abw (fun t' W'=>t'.size=20∧t'[1]?=some (.func (.func G) #[] caps)∧t'[5]?=some (v5)∧t'[7]?=some (.int .i64 (n:Int))∧t'[8]?=some (.int .i64 (k:Int))∧w5=W') ⟨by simp [hsz],by simp [q1],by simp [hsz],by simp [q7],by simp [q8],rfl⟩ ?_;clear hsz q1 l1 e1 q5 l5 e5 q6 l6 e6 q7 l7 e7 q8 l8 e8 t hob hw1;rintro t _ ⟨hsz,q1,q5,q7,q8,rfl⟩;obtain ⟨l1,e1⟩:=gE q1
   obtain ⟨l5,e5⟩:=gE q5;obtain ⟨l7,e7⟩:=gE q7;obtain ⟨l8,e8⟩:=gE q8;apply wp_region_lit
   repeat go_step
   try simp only [Exit.then]
   refine ⟨⟨_,k+1,v5,rfl,by omega,by simp [hsz],by simp [q1],by simp [q5],by simp [q7],by simp [hsz],how5,hb5⟩,?_⟩
   ·simp [hsz,intOf]
    omega
  ·have hfk':f k=false:=by simpa using hfk
   have hids:=idsM_no hfk';rw [hfk'] at q13;refine wp_cond_false (by simp [Act.eval,q13]) ?_;clear l1 e1 q13;apply wp_skip
   try simp only [Exit.inBlock]
   refine hKB.out _ _ ?_;clear hKB KB;obtain ⟨l1,e1⟩:=gE q1;obtain ⟨l5,e5⟩:=gE q5;obtain ⟨l6,e6⟩:=gE q6;obtain ⟨l7,e7⟩:=gE q7;obtain ⟨l8,e8⟩:=gE q8;apply wp_region_lit
   repeat go_step
   try simp only [Exit.then]
   refine ⟨⟨_,k+1,v,rfl,by omega,by simp [hsz],by simp [q1],by simp [q5],by simp [q7],by simp [hsz],by rw [hids];exact HO.out,HB.out⟩,?_⟩
   ·simp [hsz,intOf]
    omega
 ·have hd:decide ((k:Int)<(n:Int))=false:=decide_eq_false (by omega);obtain ⟨l1,e1⟩:=gE q1;obtain ⟨l5,e5⟩:=gE q5;obtain ⟨l7,e7⟩:=gE q7;obtain ⟨l8,e8⟩:=gE q8
  refine wp_seq_h fun K hK=>?_
  apply wp_region_lit
  repeat (first | go_step)
  refine hK.out _ _ ?_;clear hK K;refine wp_abw (fun t' W'=>t'.size=20∧t'[1]?=some (.func (.func G) #[] caps)∧t'[5]?=some (v)∧t'[7]?=some (.int .i64 (n:Int))∧t'[8]?=some (.int .i64 (k:Int))∧t'[9]?=some (.bool false)∧W=W') ⟨by simp [hsz],by simp [q1],by simp [q5],by simp [q7],by simp [q8],by simp [hsz,hd],rfl⟩ ?_;clear hsz q1 l1 e1 q5 l5 e5 q7 l7 e7 q8 l8 e8 t;rintro t _ ⟨hsz,q1,q5,q7,q8,q9,rfl⟩
  refine wp_seq_h fun K1 hK1=>?_
  refine wp_cond_false (by simp [Act.eval,q9]) ?_;apply wp_exit;simp only [Exit.then,Exit.inBlock,if_true];refine hKE.out _ _ ?_;clear hd
  obtain rfl:k=n:=by omega
  obtain ⟨l1,e1⟩:=gE q1;obtain ⟨l5,e5⟩:=gE q5;obtain ⟨l7,e7⟩:=gE q7;obtain ⟨l8,e8⟩:=gE q8;obtain ⟨l9,e9⟩:=gE q9
  repeat go_step
  refine bodyPost_ret (results_tmp rfl _ _ _) rfl ?_;exact ⟨⟨v,by simp [hsz],HO.out⟩,HB.out⟩
def isKid (R:List Nr) (i:Int) (k:Nat):Bool:=match R[k]? with
 | some p=>p.n.pa == i
 | none=>false
def kidsN (R:List Nr) (i:Int):List Nat:=idsN (isKid R i) R.length
def kidsM (R:List Nr) (i:Int):List Int:=idsM (isKid R i) R.length
theorem isKid_at {R:List Nr} {i:Int} {k:Nat} {p:Nr} (h:R[k]?=some p):isKid R i k=(p.n.pa == i):=by unfold isKid;rw [h]
theorem kid1_v (A:Option Addr) (c:Nat) (R:List Nr) (i:Int) (k bt bi:Nat) (w:World) (h:NrV w A R) (hk:k<R.length) (ht:w.cell? ⟨bt,0,none⟩=some (.slice A R.length c)) (hi:w.cell? ⟨bi,0,none⟩=some (.int .i64 i)) (lt:bt<w.heap.size) (li:bi<w.heap.size) (hL:R.length≤1048576) :
  Calls Tryz.prog 75 #[.int .i64 (k:Int),.pointer (some ⟨bt,0,none⟩),.pointer (some ⟨bi,0,none⟩)] w fun e w'=>e=.returned (.bool (isKid R i k))∧Below w.heap.size w w':=by
 have hget:R[k]?=some R[k]:=List.getElem?_eq_getElem hk;obtain ⟨b,off,rfl,hb,hp⟩:=h.cells (by omega);have x0:w.cell? ⟨b,off+k*34,none⟩=some (.int .i64 R[k].n.pa):=hp k _ hget 0 _ rfl;rw [isKid_at hget];generalize R[k]=p at *
 have hd1:(k:Int)<(R.length:Int):=by omega
 clear hget hp h
 go_enter Tryz.func75,Tryz.ntmps75
 go_wp2_with fail
 refine wp_region_grow 8 1 (·<8) (by kernel_rfl) (by kernel_rfl) rfl ?_
 iterate 8 (refine wpG_step (fun K hK=>?_);first|(refine grow_skip rfl ?_;go_simp;refine hK _ ?_;clear hK K)|(apply Exists.intro;refine ⟨.inl ⟨rfl,fun w' hw'=>?_⟩,?_⟩;(focus ((obtain ⟨hc,hf⟩:=bcell hw'.out);(have hcS:=bcellS hw'.out);go_simp <;> first | rfl));(go_simp;refine hK _ ?_;clear hK K)))
 refine wpG_nil ?_;refine wpK_tail (by kernel_rfl) (fun wa hga=>?_);have hba:=bdrewn hga.out;obtain ⟨hca,hfa⟩:=bcell hba;refine wpAny_one (i:=8) (by kernel_rfl) rfl rfl ?_;go_simp;refine wpAny_end (by kernel_rfl) ?_;refine NoPan.thn ?_;clear hca hfa;clear hga;go_wp2;go_ret;exact ⟨rfl,hba⟩
section
section
variable {P:Program}
def givesUpon (P:Program) (K:Value→World→Prop):Result Next→Prop
  | .ok (.value v) w'=>K v w'
  | .ok .skip w'=>K undef w'
  | .ok (.enter f args) w'=>Calls P f args w' fun e w''=>∃ v,e=.returned v∧K v w''
  | _=>False
theorem givesUpon_value (K:Value→World→Prop) (v:Value) (w:World):givesUpon P K (.ok (.value v) w)=K v w:=rfl
theorem givesUpon_skip (K:Value→World→Prop) (w:World):givesUpon P K (.ok .skip w)=K undef w:=rfl
theorem givesUpon_enter (K:Value→World→Prop) (f:FuncId) (args:Array Value) (w:World):givesUpon P K (.ok (.enter f args) w)=Calls P f args w fun e w''=>∃ v,e=.returned v∧K v w'':=rfl
def dstIdx (t:Tmp):List Oper→Nat→Option Nat
  | [],_=>none
  | o :: r,k=>if o.dst=some t then some k else dstIdx t r (k+1)
theorem dstIdx_none {t:Tmp}:∀ {l:List Oper} {k:Nat},dstIdx t l k=none→∀ o∈l,o.dst≠some t
  | [],_,_,_,h=>by cases h
  | x :: r,k,h,o,ho=>by
    unfold dstIdx at h
    split at h
    · cases h
    · rename_i hne
      rcases List.mem_cons.1 ho with rfl | ho
      · exact hne
      · exact dstIdx_none h o ho
theorem dstIdx_some {t:Tmp}:∀ {l:List Oper} {k j:Nat},dstIdx t l k=some j→k≤j∧∃ o,l[j-k]?=some o∧o.dst=some t
  | [],_,_,h=>by cases h
  | x :: r,k,j,h=>by
    unfold dstIdx at h
    split at h
    · rename_i he
      injection h with h
      subst h
      exact ⟨Nat.le_refl _,x,by simp,he⟩
    · obtain ⟨h1,o,h2,h3⟩:=dstIdx_some h
      refine ⟨by omega,o,?_,h3⟩
      rw [show j-k=(j-(k+1))+1 from by omega]
      simpa using h2
def tv (a:Act) (t:Tmp):Value:=a.tmps.getD t undef
def look (ops:List Oper) (T:Nat→Value→World→Prop) (a0 a:Act) (w:World):List Tmp→Prop→Prop
  | [],G=>G
  | t :: r,G=>(match dstIdx t ops 0 with | some j=>T j (tv a t) w | none=>tv a t=tv a0 t)→look ops T a0 a w r G
def opOK (P:Program) (ops:List Oper) (T:Nat→Value→World→Prop) (R:World→World→Prop) (I:Nat→World→Prop) (a0:Act) (w0:World) (k:Nat) (o:Oper):Prop :=
  ∀ (m:Nat) (a:Act) (w:World),m<ops.length→R w0 w→I m w →
    look ops T a0 a w (o.looksAt ops.toArray)
      (match o.guard with
       | none=>givesUpon P (fun v w'=>T k v w'∧R w w'∧I (m+1) w') ((execOp a.eval o).run P w)
       | some _=>(Region.wanted o (yielded ops.toArray a.tmps)=true→givesUpon P (fun v w'=>T k v w'∧R w w'∧I (m+1) w') ((execOp a.eval o).run P w)) ∧
          (Region.wanted o (yielded ops.toArray a.tmps)=false→T k undef w∧I (m+1) w))
def opsOK (P:Program) (ops:List Oper) (T:Nat→Value→World→Prop) (R:World→World→Prop) (I:Nat→World→Prop) (a0:Act) (w0:World):List Oper→Nat→Prop
  | [],_=>True
  | o :: r,k=>opOK P ops T R I a0 w0 k o∧opsOK P ops T R I a0 w0 r (k+1)
def finP (T:Nat→Value→World→Prop) (w:World) (F:Act→Prop):List Oper→Nat→Act→Prop
  | [],_,a=>F a
  | o :: r,k,a=>match o.dst with
    | none=>finP T w F r (k+1) a
    | some d=>∀ v,T k v w→finP T w F r (k+1) (a.put (some d) v)
def rgB (l:List Oper) (size:Nat):Bool :=
  Region.noSelect l.toArray &&
  ((List.range l.length).all fun i=>match l[i]? with
    | none=>true
    | some o=>(o.after.toList.all fun e=>decide (e.on<i)) &&
      (o.dst.all fun d=>decide (d<size)&&dstIdx d l 0 == some i) &&
      ((o.looksAt l.toArray).all fun t=>match dstIdx t l 0 with
        | none=>true
        | some j=>o.after.toList.any fun e=>e.on == j&&Region.binds .any e))
def cntF (f:Nat→Bool):Nat→Nat
  | 0=>0
  | n+1=>cntF f n+(if f n then 0 else 1)
theorem cntF_zero {f:Nat→Bool}:∀ {n:Nat},cntF f n=0→∀ i,i<n→f i=true
  | 0,_,i,hi=>by omega
  | n+1,h,i,hi=>by
    simp only [cntF] at h
    by_cases e:i=n
    · subst e;by_cases hf:f i=true
      · exact hf
      · simp [hf] at h
    · exact cntF_zero (n:=n) (by omega) i (by omega)
theorem cntF_same {f g:Nat→Bool}:∀ {n:Nat},(∀ i,i<n→f i=g i)→cntF f n=cntF g n
  | 0,_=>rfl
  | n+1,h=>by simp only [cntF];rw [cntF_same fun i hi=>h i (by omega),h n (by omega)]
theorem cntF_set {f g:Nat→Bool} {i:Nat} (hf:f i=false) (hg:g i=true) (h:∀ j,j≠i→g j=f j):∀ {n:Nat},i<n→cntF f n=cntF g n+1
  | 0,hi=>by omega
  | n+1,hi=>by
    simp only [cntF]
    by_cases e:i=n
    · subst e
      rw [cntF_same (f:=f) (g:=g) fun j hj=>(h j (by omega)).symm]
      simp [hf,hg]
    · rw [cntF_set hf hg h (n:=n) (by omega),h n (by omega)];omega
def vof (a:Act):Option Tmp→Value
  | none=>undef
  | some d=>tv a d
def RJ (l:List Oper) (T:Nat→Value→World→Prop) (R:World→World→Prop) (I:Nat→World→Prop) (a0:Act) (w0:World) (m:Nat) (listed:Array Bool) (a:Act) (w:World):Prop :=
  R w0 w∧I m w∧a.defers=a0.defers∧a.tmps.size=a0.tmps.size ∧
  (∀ t,(∀ j o,l[j]?=some o→listed.getD j false=true→o.dst≠some t)→a.tmps[t]?=a0.tmps[t]?) ∧
  (∀ j o,l[j]?=some o→listed.getD j false=true→o.dst≠none→T j (vof a o.dst) w)
theorem look_of {ops:List Oper} {T:Nat→Value→World→Prop} {a0 a:Act} {w:World} {G:Prop}:∀ {ts:List Tmp},(∀ t∈ts,match dstIdx t ops 0 with | some j=>T j (tv a t) w | none=>tv a t=tv a0 t)→look ops T a0 a w ts G→G
  | [],_,h=>h
  | t :: r,hts,h=>look_of (fun x hx=>hts x (List.mem_cons_of_mem _ hx)) (h (hts t List.mem_cons_self))
theorem opsOK_at {ops:List Oper} {T:Nat→Value→World→Prop} {R:World→World→Prop} {I:Nat→World→Prop} {a0:Act} {w0:World}:∀ {l:List Oper} {k:Nat},opsOK P ops T R I a0 w0 l k→∀ {i:Nat} {o:Oper},l[i]?=some o→opOK P ops T R I a0 w0 (k+i) o
  | [],_,_,i,o,h=>by simp at h
  | x :: r,k,h,0,o,ho=>by
    obtain rfl:x=o:=by simpa using ho
    exact h.1
  | x :: r,k,h,i+1,o,ho=>by
    have:=opsOK_at (k:=k+1) h.2 (i:=i) (o:=o) (by simpa using ho)
    rwa [show k+(i+1)=k+1+i from by omega]
theorem put_size (a:Act) (d:Option Tmp) (v:Value):(a.put d v).tmps.size=a.tmps.size:=by cases d <;> simp [Act.put]
theorem put_defers' (a:Act) (d:Option Tmp) (v:Value):(a.put d v).defers=a.defers:=by cases d <;> rfl
theorem put_ne (a:Act) (d:Option Tmp) (v:Value) {t:Nat} (h:d≠some t):(a.put d v).tmps[t]?=a.tmps[t]?:=by
  cases d with
  | none=>rfl
  | some d=>exact Array.getElem?_setIfInBounds_ne (fun e=>h (by rw [e]))
theorem put_same (a:Act) (d:Tmp) (v:Value) (h:d<a.tmps.size):(a.put (some d) v).tmps[d]?=some v:=by
  simp [Act.put,h]
theorem tv_of {a b:Act} {t:Tmp} (h:a.tmps[t]?=b.tmps[t]?):tv a t=tv b t:=by
  unfold tv;rw [Array.getD_eq_getD_getElem?,Array.getD_eq_getD_getElem?,h]
theorem finP_to {T:Nat→Value→World→Prop} {w:World} {F:Act→Prop} {a':Act}:∀ {l:List Oper} {k:Nat} {b:Act},b.defers=a'.defers→b.tmps.size=a'.tmps.size →
    (∀ t,(∀ o∈l,o.dst≠some t)→b.tmps[t]?=a'.tmps[t]?)→(∀ j o,l[j]?=some o→o.dst≠none→T (k+j) (vof a' o.dst) w)→finP T w F l k b→F a'
  | [],k,b,hd,hs,hb,hT,h=>by
    have e:b=a':=by
      obtain ⟨bt,bd⟩:=b
      obtain ⟨at',ad⟩:=a'
      simp only at hd hs hb
      subst hd
      congr 1
      exact Array.ext_getElem? fun t=>hb t (by simp)
    rw [<- e];exact h
  | o :: r,k,b,hd,hs,hb,hT,h=>by
    unfold finP at h
    cases ho:o.dst with
    | none =>
      rw [ho] at h
      refine finP_to hd hs (fun t ht=>hb t (fun x hx=>?_)) (fun j x hx hn=>?_) h
      · rcases List.mem_cons.1 hx with rfl | hx
        · rw [ho];simp
        · exact ht x hx
      · have:=hT (j+1) x (by simpa using hx) hn
        rwa [show k+(j+1)=k+1+j from by omega] at this
    | some d =>
      rw [ho] at h
      have h0:=hT 0 o (by simp) (by rw [ho];simp)
      rw [ho] at h0
      have h1:=h (vof a' (some d)) h0
      refine finP_to (by rw [put_defers'];exact hd) (by rw [put_size];exact hs) (fun t ht=>?_) (fun j x hx hn=>?_) h1
      · by_cases e:d=t
        · subst e
          rcases Nat.lt_or_ge d b.tmps.size with hlt | hge
          · rw [put_same _ _ _ hlt]
            simp only [vof,tv]
            rw [Array.getD_eq_getD_getElem?,Array.getElem?_eq_getElem (by omega)]
            rfl
          · rw [Array.getElem?_eq_none (by rw [put_size];omega),Array.getElem?_eq_none (by omega)]
        · rw [put_ne _ _ _ (by simpa using e)]
          refine hb t fun x hx=>?_
          rcases List.mem_cons.1 hx with rfl | hx
          · rw [ho];simpa using e
          · exact ht x hx
      · have:=hT (j+1) x (by simpa using hx) hn
        rwa [show k+(j+1)=k+1+j from by omega] at this
theorem wp_of_gives {o:Oper} {a:Act} {w:World} {K:Value→World→Prop} {N:Act→World→Prop} {Q:Exit→Act→World→Prop} (h:givesUpon P K ((execOp a.eval o).run P w)) (hN:∀ v w',K v w'→N (a.put o.dst v) w'):o.wp P a w N Q:=by
  unfold Oper.wp
  generalize (execOp a.eval o).run P w=r at *
  cases r with
  | ok n w' =>
    cases n <;> simp only [givesUpon] at h <;> simp only [Oper.upon]
    case value u=>exact hN _ _ h
    case skip=>exact hN _ _ h
    case enter f args=>exact h.mono fun e w'' ⟨v,he,hk⟩=>by subst he;exact hN _ _ hk
  | halt x w'=>simp only [givesUpon] at h
theorem wp_region_rg {id:Nat} {l:List Oper} {Q:Exit→Act→World→Prop} {a0:Act} {w:World} (T:Nat→Value→World→Prop) (R:World→World→Prop) (I:Nat→World→Prop)
    (hm:P.follows .mixedOrders=true) (hB:rgB l a0.tmps.size=true) (hRr:∀ a,R a a) (hRt:∀ a b c,R a b→R b c→R a c) (hTs:∀ k v a b,T k v a→R a b→T k v b) (hI0:I 0 w.drew)
    (hops:opsOK P l T R I a0 w.drew l 0) (hfin:∀ w',R w.drew w'→I l.length w'→finP T w' (fun a'=>Q .normal a' w') l 0 a0):(Code.region id l.toArray true).wp P Q a0 w:=by
  simp only [rgB,Bool.and_eq_true] at hB
  obtain ⟨hns,hB⟩:=hB
  have hB':∀ (i:Nat) (o:Oper),l[i]?=some o→(∀ e∈o.after,e.on<i)∧(∀ d,o.dst=some d→d<a0.tmps.size∧dstIdx d l 0=some i)∧(∀ t∈o.looksAt l.toArray,∀ j,dstIdx t l 0=some j→∃ e∈o.after,e.on=j∧Region.binds .any e=true):=by
    intro i o ho
    have hlt:=(List.getElem?_eq_some_iff.1 ho).1
    have h1:=List.all_eq_true.1 hB i (List.mem_range.2 hlt)
    simp only [ho,Bool.and_eq_true] at h1
    obtain ⟨⟨h1,h2⟩,h3⟩:=h1
    refine ⟨fun e he=>by have:=List.all_eq_true.1 h1 e (by simpa using he);simpa using this,fun d hd=>?_,fun t ht j hj=>?_⟩
    · rw [hd] at h2
      simp only [Option.all_some,Bool.and_eq_true,decide_eq_true_eq,beq_iff_eq] at h2
      exact h2
    · have h4:=List.all_eq_true.1 h3 t ht
      rw [hj] at h4
      obtain ⟨e,he,h5⟩:=List.any_eq_true.1 h4
      simp only [Bool.and_eq_true,beq_iff_eq] at h5
      exact ⟨e,by simpa using he,h5⟩
  have hdist:∀ (i:Nat) (o:Oper) (j:Nat) (p:Oper),l[i]?=some o→l[j]?=some p→i≠j→∀ d,o.dst=some d→p.dst≠some d:=by
    intro i o j p ho hp hij d hd hpd
    have h1:=((hB' i o ho).2.1 d hd).2
    rw [((hB' j p hp).2.1 d hpd).2] at h1
    injection h1 with h1
    exact hij h1.symm
  have main:∀ (fuel m:Nat) (listed:Array Bool) (a:Act) (w':World),cntF (fun i=>listed.getD i true) l.length=fuel→listed.size=l.length→fuel+m=l.length→RJ l T R I a0 w.drew m listed a w' →
      wpAny P .any l.toArray Q fuel listed a w':=by
    intro fuel
    have hdone:∀ (m:Nat) (listed:Array Bool) (a:Act) (w':World),m=l.length→(∀ i,i<l.length→listed.getD i false=true)→RJ l T R I a0 w.drew m listed a w'→Q .normal a w':=by
      rintro m listed a w' rfl hall ⟨hR,hI,hd,hs,ht,hT⟩
      refine finP_to (T:=T) (w:=w') (F:=fun a'=>Q .normal a' w') (l:=l) (k:=0) (b:=a0) hd.symm hs.symm (fun t h=>?_) (fun j o ho hn=>?_) (hfin w' hR hI)
      · exact (ht t fun j o ho _=>h o (List.mem_of_getElem? ho)).symm
      · rw [Nat.zero_add];exact hT j o ho (hall j (List.getElem?_eq_some_iff.1 ho).1) hn
    have hnil:∀ (listed:Array Bool),listed.size=l.length→Region.ready .any l.toArray listed=[]→∀ i,i<l.length→listed.getD i false=true:=by
      intro listed hls hr i
      induction i using Nat.strongRecOn with
      | ind i ih =>
        intro hi
        by_cases hl:listed.getD i false=true
        · exact hl
        · exfalso
          have ho:l[i]?=some l[i]:=List.getElem?_eq_getElem hi
          have hmem:i∈Region.ready .any l.toArray listed:=mem_ready.2 ⟨by
            rw [Array.getD_eq_getD_getElem?,Array.getElem?_eq_getElem (by omega)] at *
            simp only [Option.getD_some,Bool.not_eq_true] at *
            exact hl,l[i],by simp,fun e he _=>ih e.on ((hB' i _ ho).1 e he) (by have:=(hB' i _ ho).1 e he;omega)⟩
          rw [hr] at hmem
          cases hmem
    induction fuel with
    | zero =>
      intro m listed a w' hc hls hm' hJ
      have hall:∀ i,i<l.length→listed.getD i false=true:=fun i hi=>by
        have:=cntF_zero hc i hi
        rw [Array.getD_eq_getD_getElem?,Array.getElem?_eq_getElem (by omega)] at *
        simpa using this
      refine ⟨?_,hdone m listed a w' (by omega) hall hJ⟩
      cases hr:Region.ready .any l.toArray listed with
      | nil=>rfl
      | cons x xs =>
        exfalso
        obtain ⟨h0,o,ho,_⟩:=mem_ready.1 (show x∈Region.ready .any l.toArray listed by rw [hr];exact List.mem_cons_self)
        have hlt:x<l.length:=by have:=(gE ho).1;simpa using this
        have:=hall x hlt
        rw [Array.getD_eq_getD_getElem?,Array.getElem?_eq_getElem (by omega)] at *
        simp at h0 this
        rw [h0] at this
        cases this
    | succ fuel ih =>
      intro m listed a w' hc hls hm' hJ
      refine ⟨fun hr=>?_,fun i hi=>?_⟩
      · exfalso
        have hall:=hnil listed hls hr
        have:cntF (fun i=>listed.getD i true) l.length=0:=by
          rw [cntF_same (g:=fun _=>true) (fun i hi=>by
            have:=hall i hi
            rw [Array.getD_eq_getD_getElem?,Array.getElem?_eq_getElem (by omega)] at *
            simpa using this)]
          clear hc hm' hls
          induction l.length with
          | zero=>rfl
          | succ n ihn=>simp [cntF,ihn]
        omega
      · obtain ⟨h0,o,ho',hall⟩:=mem_ready.1 hi
        have ho:l[i]?=some o:=by simpa using ho'
        have hlt:i<l.length:=(List.getElem?_eq_some_iff.1 ho).1
        obtain ⟨hR,hI,hd,hs,ht,hT⟩:=hJ
        obtain ⟨b1,b2,b3⟩:=hB' i o ho
        have hlook:∀ t∈o.looksAt l.toArray,match dstIdx t l 0 with | some j=>T j (tv a t) w' | none=>tv a t=tv a0 t:=by
          intro t htm
          cases hj:dstIdx t l 0 with
          | none =>
            refine tv_of (ht t fun j p hp _=>dstIdx_none hj p (List.mem_of_getElem? hp))
          | some j =>
            obtain ⟨e,he,rfl,hb⟩:=b3 t htm j hj
            obtain ⟨_,p,hp,hpd⟩:=dstIdx_some hj
            have:=hT e.on p (by simpa using hp) (hall e he hb) (by rw [hpd];simp)
            rw [hpd] at this
            exact this
        have hop:=look_of hlook (opsOK_at hops ho m a w' (by omega) hR hI)
        rw [Nat.zero_add] at hop
        have hget:∀ d,(listed.setIfInBounds i true).getD i d=true:=fun d=>by
          rw [Array.getD_eq_getD_getElem?,Array.getElem?_setIfInBounds_self_of_lt (by omega)];rfl
        have next:∀ v w1,T i v w1→R w' w1→I (m+1) w1→wpAny P .any l.toArray Q fuel (listed.setIfInBounds i true) (a.put o.dst v) w1:=by
          intro v w1 hTv hR1 hI1
          refine ih (m+1) _ _ _ ?_ (by simpa using hls) (by omega) ⟨hRt _ _ _ hR hR1,hI1,(put_defers' _ _ _).trans hd,(put_size _ _ _).trans hs,fun t h=>?_,fun j p hp hl hn=>?_⟩
          · have:=cntF_set (f:=fun i=>listed.getD i true) (g:=fun j=>(listed.setIfInBounds i true).getD j true) (i:=i) h0 (hget true) (fun j hj=>getD_set_ne true (Ne.symm hj)) hlt
            omega
          · have hne:o.dst≠some t:=h i o ho (hget false)
            rw [put_ne _ _ _ hne]
            exact ht t fun j p hp hl=>h j p hp (getD_set_true hl)
          · by_cases e:i=j
            · subst e
              rw [ho] at hp
              obtain rfl:=Option.some.inj hp
              cases hod:o.dst with
              | none=>exact absurd hod hn
              | some d =>
                have:tv (a.put (some d) v) d=v:=by
                  unfold tv
                  rw [Array.getD_eq_getD_getElem?,put_same _ _ _ (by rw [hs];exact (b2 d hod).1)]
                  rfl
                simp only [vof]
                rw [this]
                exact hTv
            · rw [getD_set_ne false e] at hl
              have h2:=hTs j _ w' w1 (hT j p hp hl hn) hR1
              cases hpd:p.dst with
              | none=>exact absurd hpd hn
              | some d =>
                rw [hpd] at h2
                simp only [vof] at h2 ⊢
                rw [show tv (a.put o.dst v) d=tv a d from tv_of (put_ne _ _ _ (fun hod=>hdist i o j p ho hp e d hod hpd))]
                exact h2
        unfold wpOp
        simp only [ho']
        cases hg:o.guard with
        | none =>
          rw [hg] at hop
          rw [if_pos (by simp [Region.wanted,hg])]
          exact .inl (wp_of_gives hop fun v w1 ⟨h1,h2,h3⟩=>next v w1 h1 h2 h3)
        | some g =>
          rw [hg] at hop
          obtain ⟨g1,g2⟩:=hop
          split
          · rename_i hw
            exact .inl (wp_of_gives (g1 hw) fun v w1 ⟨h1,h2,h3⟩=>next v w1 h1 h2 h3)
          · rename_i hw
            obtain ⟨h1,h2⟩:=g2 (by simpa using hw)
            exact next undef w' h1 (hRr _) h2
  refine wp_region_any hm ?_
  refine main l.toArray.size 0 _ a0 w.drew ?_ (by simp) (by simp) ⟨hRr _,hI0,rfl,rfl,fun t _=>rfl,fun j o ho hl=>?_⟩
  · have:∀ n,n≤l.length→cntF (fun i=>(Array.replicate l.toArray.size false).getD i true) n=n:=by
      intro n
      induction n with
      | zero=>intro _;rfl
      | succ n ihn =>
        intro hn
        simp only [cntF]
        rw [ihn (by omega)]
        have:(Array.replicate l.toArray.size false).getD n true=false:=by
          rw [Array.getD_eq_getD_getElem?,Array.getElem?_replicate,if_pos (by simp;omega)];rfl
        rw [if_neg (by rw [this];decide)]
    simpa using this l.length (Nat.le_refl _)
  · exfalso
    rw [Array.getD_eq_getD_getElem?,Array.getElem?_replicate] at hl
    split at hl <;> simp at hl
def lookD (T:Nat→Value→World→Prop) (a0 a:Act) (w:World):List (Tmp × Option Nat)→Prop→Prop
  | [],G=>G
  | (t,some j) :: r,G=>T j (a.eval (.tmp t)) w→lookD T a0 a w r G
  | (t,none) :: r,G=>a.eval (.tmp t)=a0.eval (.tmp t)→lookD T a0 a w r G
def dsB (ops:List Oper) (o:Oper) (ds:List (Tmp × Option Nat)):Bool:=(o.looksAt ops.toArray == ds.map (·.1))&&ds.all fun p=>dstIdx p.1 ops 0 == p.2
theorem look_ds {ops:List Oper} {T:Nat→Value→World→Prop} {a0 a:Act} {w:World} {G:Prop}:∀ {ds:List (Tmp × Option Nat)},(∀ p∈ds,dstIdx p.1 ops 0=p.2)→lookD T a0 a w ds G→look ops T a0 a w (ds.map (·.1)) G
  | [],_,h=>h
  | (t,some j) :: r,hd,h=>by
    have e:=hd _ List.mem_cons_self
    simp only at e
    unfold lookD at h
    simp only [List.map_cons,look,e]
    exact fun x=>look_ds (fun p hp=>hd p (List.mem_cons_of_mem _ hp)) (h x)
  | (t,none) :: r,hd,h=>by
    have e:=hd _ List.mem_cons_self
    simp only at e
    unfold lookD at h
    simp only [List.map_cons,look,e]
    exact fun x=>look_ds (fun p hp=>hd p (List.mem_cons_of_mem _ hp)) (h x)
theorem opOK_ds {ops:List Oper} {T:Nat→Value→World→Prop} {R:World→World→Prop} {I:Nat→World→Prop} {a0:Act} {w0:World} {k:Nat} {o:Oper} (ds:List (Tmp × Option Nat)) (hB:dsB ops o ds=true) (hg:o.guard=none)
    (h:∀ (m:Nat) (a:Act) (w:World),m<ops.length→R w0 w→I m w→lookD T a0 a w ds (givesUpon P (fun v w'=>T k v w'∧R w w'∧I (m+1) w') ((execOp a.eval o).run P w))):opOK P ops T R I a0 w0 k o:=by
  intro m a w hm hR hI
  simp only [dsB,Bool.and_eq_true,beq_iff_eq] at hB
  obtain ⟨h1,h2⟩:=hB
  rw [h1]
  refine look_ds (fun p hp=>by have:=List.all_eq_true.1 h2 p hp;simpa using this) ?_
  have:=h m a w hm hR hI
  rw [hg]
  exact this
theorem wp_region_rgl {id:Nat} {l:List Oper} {Q:Exit→Act→World→Prop} {a0:Act} {w:World} (T:Nat→Value→World→Prop) (R:World→World→Prop) (I:Nat→World→Prop)
    (hm:P.follows .mixedOrders=true) (hB:rgB l a0.tmps.size=true) (hRr:∀ a,R a a) (hRt:∀ a b c,R a b→R b c→R a c) (hTs:∀ k v a b,T k v a→R a b→T k v b) (hI0:I 0 w.drew)
    (hops:opsOK P l T R I a0 w.drew l 0) (hfin:∀ w',R w.drew w'→I l.length w'→finP T w' (fun a'=>Q .normal a' w') l 0 a0):(Code.region id l.toArray true).wp P Q a0 w:=wp_region_rg T R I hm hB hRr hRt hTs hI0 hops hfin
end
end
section
section
variable {P:Program}
def XV (u:Value):Value→World→Prop:=fun v _=>v=u
def XT:Value→World→Prop:=fun _ _=>True
def Stay (T:Value→World→Prop):Prop:=∀ v a b,T v a→Gr a b→T v b
theorem stay_V (u:Value):Stay (XV u):=fun _ _ _ h _=>h
theorem stay_T:Stay XT:=fun _ _ _ _ _=>trivial
theorem stay_of {F:Value→World→Prop} (h:∀ v a b,F v a→Below a.heap.size a b→F v b):Stay F:=fun v a b x g=>h v a b x g.out
theorem stay_list {l:List (Value→World→Prop)} (h:∀ T∈l,Stay T):∀ k v a b,(l.getD k XT) v a→Gr a b→(l.getD k XT) v b:=by
 intro k v a b hv g;rw [List.getD_eq_getElem?_getD] at *
 cases hk:l[k]? with
 | none=>trivial
 | some T=>rw [hk] at hv;exact h T (List.mem_of_getElem? hk) v a b hv g
def GIx (_:Nat) (_:World):Prop:=True
theorem gx_gen {K:Value→World→Prop} {r:Result Next} (h:∀ K':Value→World→Prop,(∀ v w',K v w'→K' v w')→givesUpon P K' r):givesUpon P K r:=h K fun _ _ h=>h
theorem lookD_imp {T:Nat→Value→World→Prop} {a0 a:Act} {w:World} {G G':Prop} (hG:G→G'):∀ {ds:List (Tmp × Option Nat)},lookD T a0 a w ds G→lookD T a0 a w ds G'
 | [],h=>hG h
 | (t,some j) :: r,h=>fun x=>lookD_imp (ds:=r) hG (h x)
 | (t,none) :: r,h=>fun x=>lookD_imp (ds:=r) hG (h x)
theorem givesUpon_imp {K K':Value→World→Prop} (hK:∀ v w,K v w→K' v w) {r:Result Next} (h:givesUpon P K r):givesUpon P K' r:=by
 unfold givesUpon at *
 split at h
 ·exact hK _ _ h
 ·exact hK _ _ h
 ·exact h.mono fun e w' ⟨v,e1,e2⟩=>⟨v,e1,hK _ _ e2⟩
 ·exact h.elim
theorem opOK_rx {ops:List Oper} {T:Nat→Value→World→Prop} {a0:Act} {w0:World} {k:Nat} {o:Oper} (ds:List (Tmp × Option Nat)) (hB:dsB ops o ds=true) (hg:o.guard=none)
  (h:∀ (a:Act) (w:World),Gr w0 w→lookD T a0 a w ds (givesUpon P (fun v w'=>T k v w'∧Gr w w') ((execOp a.eval o).run P w))):opOK P ops T Gr GIx a0 w0 k o :=
 opOK_ds ds hB hg fun m a w _ hR _=>lookD_imp (fun x=>givesUpon_imp (fun v w' ⟨h1,h2⟩=>⟨h1,h2,trivial⟩) x) (h a w hR)
theorem wp_region_rx {id:Nat} {l:List Oper} {Q:Exit→Act→World→Prop} {a0:Act} {w:World} (tl:List (Value→World→Prop))
  (hm:P.follows .mixedOrders=true) (hB:rgB l a0.tmps.size=true) (hTs:∀ T∈tl,Stay T)
  (hops:opsOK P l (fun k=>tl.getD k XT) Gr GIx a0 w.drew l 0) (hfin:∀ w',Gr w.drew w'→finP (fun k=>tl.getD k XT) w' (fun a'=>Q .normal a' w') l 0 a0):(Code.region id l.toArray true).wp P Q a0 w :=
 wp_region_rgl (fun k=>tl.getD k XT) Gr GIx hm hB Gr.refl (fun _ _ _ h k=>h.trans k) (stay_list hTs) trivial hops fun w' h _=>hfin w' h
end
end
theorem gxB {P:Program} {W w':World} {K:Value→World→Prop} {r:Result Next} (hw:Gr W.drew w') (h:∀ K':Value→World→Prop,(∀ v w',K v w'→K' v w')→(∀ b o,b<W.heap.size→w'.cell? ⟨b,o,none⟩=W.cell? ⟨b,o,none⟩)→(∀ b o,b<W.heap.size→w'.frozen? ⟨b,o,none⟩=W.frozen? ⟨b,o,none⟩)→givesUpon P K' r):givesUpon P K r:=h K (fun _ _ h=>h) (bcell (bdrewn hw.out)).1 (bcell (bdrewn hw.out)).2
theorem each_wc (A:Option Addr) (c:Nat) (R:List (List Value)) (U:List Value→List Value) (w:World) (h:RvK 37 w A R) (hl:∀ vs∈R,vs.length=37∧one vs) (hL:R.length≤1048576) (hU:∀ vs∈R,(U vs).length=9∧one (U vs))
  (hf:∀ vs∈R,∀ W,Below w.heap.size w W→Calls Tryz.prog 95 #[.agg vs.toArray] W fun e W'=>e=.returned (.agg (U vs).toArray)∧Below W.heap.size W W') :
  Calls Tryz.prog 94 #[.slice A R.length c,.func (.func 95) #[] #[]] w fun e w'=>e=.returned (.slice (some ⟨w.heap.size,0,none⟩) R.length R.length)∧RbK 9 w' w.heap.size 87 (R.map U)∧Below w.heap.size w w':=by
 obtain ⟨fm,hfm,hmk0⟩:=made_Cell;have HR:=hD (show ∀ vs∈R.map U,vs.length=9 from fun vs hv=>by obtain ⟨us,hu,rfl⟩:=List.mem_map.1 hv;exact (hU us hu).1);have HU:=hD hU;have HF:=hD hf;have HH:=hD h;have HL:=hD hl;have HFM:=hD hfm;clear hU hf h hfm hl;refine calls_abs Tryz.func94 rfl 26 (by simp only [Tryz.ntmps94]) (by simp) (fun t hsz hargs=>?_)
 have q0:t[0]?=some (.slice A R.length c):=get_of (by omega) (hargs 0 _ rfl);have q1:t[1]?=some (.func (.func 95) #[] #[]):=get_of (by omega) (hargs 1 _ rfl);clear hargs;obtain ⟨l0,e0⟩:=gE q0;obtain ⟨l1,e1⟩:=gE q1
 refine wp_seq_h fun K hK=>?_
 apply wp_region_lit
 repeat (first | go_step)
 refine hK.out _ _ ?_;clear hK K;refine wp_abw (fun t' W'=>t'.size=26∧t'[0]?=some (.slice A R.length c)∧t'[1]?=some (.func (.func 95) #[] #[])∧w=W') ⟨by simp [hsz],by simp [q0],by simp [q1],rfl⟩ ?_;clear hsz q0 l0 e0 q1 l1 e1 t;rintro t _ ⟨hsz,q0,q1,rfl⟩;have hmk:=hmk0 R.length w hL;clear hmk0;obtain ⟨l0,e0⟩:=gE q0;obtain ⟨l1,e1⟩:=gE q1
 refine wp_seq_h fun K hK=>?_
 apply wp_region_lit
 repeat (first | go_step)
 refine hK.out _ _ ?_;clear hK K;refine wp_abw (fun t' W'=>t'.size=26∧t'[0]?=some (.slice A R.length c)∧t'[1]?=some (.func (.func 95) #[] #[])∧t'[5]?=some (.slice (some ⟨w.heap.size,0,none⟩) R.length R.length)∧RpK 9 W' w.heap.size 87 R.length 0 (R.map U)∧Below w.heap.size w W') ⟨by simp [hsz],by simp [q0],by simp [q1],by simp [hsz],⟨RpK.new _ (HFM.out _),balloc (Below.refl _ _)⟩⟩ ?_
 clear hsz q0 l0 e0 q1 l1 e1 t hmk;rintro t W0 ⟨hsz,q0,q1,q5,hP,hB⟩
 refine wp_seq_h fun KE hKE=>?_
 obtain ⟨l0,e0⟩:=gE q0;obtain ⟨l1,e1⟩:=gE q1;obtain ⟨l5,e5⟩:=gE q5
 refine wp_seq_h fun K hK=>?_
 apply wp_region_lit
 repeat (first | go_step)
 refine hK.out _ _ ?_;clear hK K;refine wp_abw (fun t' W'=>t'.size=26∧t'[1]?=some (.func (.func 95) #[] #[])∧t'[5]?=some (.slice (some ⟨w.heap.size,0,none⟩) R.length R.length)∧t'[11]?=some (.slice A R.length c)∧t'[12]?=some (.int .i64 (R.length:Int))∧t'[13]?=some (.int .i64 ((0:Nat):Int))∧W0=W') ⟨by simp [hsz],by simp [q1],by simp [q5],by simp [hsz],by simp [hsz],by simp [hsz],rfl⟩ ?_
 clear hsz q0 l0 e0 q1 l1 e1 q5 l5 e5 t;rintro t _ ⟨hsz,q1,q5,q11,q12,q13,rfl⟩;apply wp_block
 refine wp_loop (fun a W=>∃ (t:Array Value) (k:Nat),a=⟨t,[]⟩∧k≤R.length∧t.size=26∧t[1]?=some (.func (.func 95) #[] #[])∧t[5]?=some (.slice (some ⟨w.heap.size,0,none⟩) R.length R.length)∧t[11]?=some (.slice A R.length c)∧t[12]?=some (.int .i64 (R.length:Int))∧t[13]?=some (.int .i64 (k:Int))∧RpK 9 W w.heap.size 87 R.length k (R.map U)∧Below w.heap.size w W) (fun a _=>R.length-(intOf (a.tmps.getD 13 undef)).toNat) ⟨t,0,rfl,by omega,hsz,q1,q5,q11,q12,q13,hP,hB⟩ ?_
 clear t hsz q1 q5 q11 q12 q13 hP hB W0;rintro a W ⟨t,k,rfl,hk,hsz,q1,q5,q11,q12,q13,hP,hB⟩
 have hmu:intOf (t.getD 13 undef)=(k:Int):=by rw [Array.getD_eq_getD_getElem?,q13];rfl
 dsimp only
 rw [hmu];clear hmu;have HP:=hD hP;have HB:=hD hB;clear hP hB
 by_cases hlt:k<R.length
 ·have hd:decide ((k:Int)<(R.length:Int))=true:=by simpa using hlt
  obtain ⟨l1,e1⟩:=gE q1;obtain ⟨l5,e5⟩:=gE q5;obtain ⟨l11,e11⟩:=gE q11;obtain ⟨l12,e12⟩:=gE q12;obtain ⟨l13,e13⟩:=gE q13
  refine wp_seq_h fun K hK=>?_
  apply wp_region_lit
  repeat (first | go_step)
  refine hK.out _ _ ?_;clear hK K
  refine wp_abw (fun t' W'=>t'.size=26∧t'[1]?=some (.func (.func 95) #[] #[])∧t'[5]?=some (.slice (some ⟨w.heap.size,0,none⟩) R.length R.length)∧t'[11]?=some (.slice A R.length c)∧t'[12]?=some (.int .i64 (R.length:Int))∧t'[13]?=some (.int .i64 (k:Int))∧t'[14]?=some (.bool true)∧W=W') ⟨by simp [hsz],by simp [q1],by simp [q5],by simp [q11],by simp [q12],by simp [q13],by simp [hsz,hd],rfl⟩ ?_
  clear hsz q1 l1 e1 q5 l5 e5 q11 l11 e11 q12 l12 e12 q13 l13 e13 t;rintro t _ ⟨hsz,q1,q5,q11,q12,q13,q14,rfl⟩;clear hd
  refine wp_seq_h fun K1 hK1=>?_
  refine wp_cond_true (by simp [Act.eval,q14]) ?_;apply wp_skip;simp only [Exit.then];refine hK1.out _ _ ?_;clear hK1 K1 q14
  refine wp_seq_h fun KB hKB=>?_
  apply wp_block;have hget:R[k]?=some R[k]:=List.getElem?_eq_getElem hlt;obtain ⟨b,off,rfl,hb,hps⟩:=(HH.out.keep HB.out) (by omega);have hc:=hps k _ hget;have hll:=HL.out _ (List.mem_of_getElem? hget);obtain ⟨hlv,hov⟩:=hll;have hUv:=HU.out _ (List.mem_of_getElem? hget);obtain ⟨hul,huo⟩:=hUv;have hfv:=HF.out _ (List.mem_of_getElem? hget)
  have hmv:(R.map U)[k]?=some (U R[k]):=by rw [List.getElem?_map,hget];rfl
  obtain ⟨x,hx⟩:∃ x,R[k]=x:=⟨_,rfl⟩
  rw [hx] at hc hlv hov hul huo hfv hmv;have HC:=hD hc;have HLV:=hD hlv;have HOV:=hD hov;have HUL:=hD hul;have HUO:=hD huo;have HFV:=hD hfv;have HMV:=hD hmv;clear hget hps hc hlv hov hul huo hfv hmv hx
  have hd1:(k:Int)<(R.length:Int):=by omega
  obtain ⟨l1,e1⟩:=gE q1;obtain ⟨l5,e5⟩:=gE q5;obtain ⟨l11,e11⟩:=gE q11;obtain ⟨l12,e12⟩:=gE q12;obtain ⟨l13,e13⟩:=gE q13
  refine wp_seq_h fun K hK=>?_
  apply wp_region_lit
  repeat (first|((with_reducible show wpList _ _ _ _ _ _);refine ldK 98 _ x b (off+k*37) rfl rfl HC.out Tryz.underlying98 rfl (by rw [HLV.out];exact inf_widget) (by simp [Act.eval,hsz]) ?_)|((with_reducible show wpList _ _ _ _ _ _);refine allocK 98 37 rfl rfl infz_widget (fun z hz=>?_))|((with_reducible show wpList _ _ _ _ _ _);refine stK 98 (.tmp 7) _ x W.heap.size 0 rfl rfl (thereB (newS _ _) (by rw [HLV.out,hz];omega)) (by rw [HLV.out];exact inf_widget) HOV.out (by simp [Act.eval,hsz]) (by simp [Act.eval,hsz]) ?_) | go_step)
  refine hK.out _ _ ?_;clear hK K
  refine wp_abw (fun t' W'=>t'.size=26∧t'[1]?=some (.func (.func 95) #[] #[])∧t'[5]?=some (.slice (some ⟨w.heap.size,0,none⟩) R.length R.length)∧t'[6]?=some (.int .i64 (k:Int))∧t'[7]?=some (.pointer (some ⟨W.heap.size,0,none⟩))∧t'[11]?=some (.slice (some ⟨b,off,none⟩) R.length c)∧t'[12]?=some (.int .i64 (R.length:Int))∧t'[13]?=some (.int .i64 (k:Int))∧W'.rangeAt W.heap.size 0 x∧Below W.heap.size W W') ⟨by simp [hsz],by simp [q1],by simp [q5],by simp [hsz],by simp [hsz],by simp [q11],by simp [q12],by simp [q13],⟨World.rangeAt_setCells_same _ _ _ _ (thereB (newS _ _) (by rw [HLV.out,hz];omega)),below_setCells (Nat.le_refl _) _ _ _ (balloc (Below.refl _ _))⟩⟩ ?_
  clear hsz q1 l1 e1 q5 l5 e5 q11 l11 e11 q12 l12 e12 q13 l13 e13 t hd1 z hz;rintro t W1 ⟨hsz,q1,q5,q6,q7,q11,q12,q13,hx1,hb1⟩;have HX1:=hD hx1;have hwg:=HP.out.lt;replace HP:=hD (HP.out.keep hb1);replace HB:=hD (bkeep2 HB.out hb1);clear hx1 hb1 HC
  have hd1:(k:Int)<(R.length:Int):=by omega
  obtain ⟨l1,e1⟩:=gE q1;obtain ⟨l5,e5⟩:=gE q5;obtain ⟨l6,e6⟩:=gE q6;obtain ⟨l7,e7⟩:=gE q7;obtain ⟨l11,e11⟩:=gE q11;obtain ⟨l12,e12⟩:=gE q12;obtain ⟨l13,e13⟩:=gE q13;apply wp_region_lit
  repeat (first|((with_reducible show wpList _ _ _ _ _ _);refine ldK 98 _ x W.heap.size 0 rfl rfl HX1.out Tryz.underlying98 rfl (by rw [HLV.out];exact inf_widget) (by simp [Act.eval,hsz,e7]) ?_) | go_step)
  refine (HFV.out _ HB.out).mono ?_;rintro e W2 ⟨rfl,hb2⟩
  dsimp only
  have hth:W2.there w.heap.size (k*9) (U x).length:=by rw [HUL.out];exact (HP.out.keep hb2).there hlt
  repeat (first|((with_reducible show wpList _ _ _ _ _ _);refine stK 87 _ _ (U x) w.heap.size (k*9) rfl rfl hth (by rw [HUL.out];exact inf_Cell) HUO.out (by simp [Act.eval,hsz,hd1]) (by simp [Act.eval,hsz]) ?_) | go_step)
  try simp only [Exit.inBlock]
  refine hKB.out _ _ ?_;clear hKB KB
  refine wp_abw (fun t' W'=>t'.size=26∧t'[1]?=some (.func (.func 95) #[] #[])∧t'[5]?=some (.slice (some ⟨w.heap.size,0,none⟩) R.length R.length)∧t'[11]?=some (.slice (some ⟨b,off,none⟩) R.length c)∧t'[12]?=some (.int .i64 (R.length:Int))∧t'[13]?=some (.int .i64 (k:Int))∧RpK 9 W' w.heap.size 87 R.length (k+1) (R.map U)∧Below w.heap.size w W') ⟨by simp [hsz],by simp [q1],by simp [q5],by simp [q11],by simp [q12],by simp [q13],⟨(HP.out.keep hb2).step HR.out HMV.out hlt,below_setCells (Nat.le_refl _) _ _ _ (bkeep2 HB.out hb2)⟩⟩ ?_
  clear hsz q1 l1 e1 q5 l5 e5 q6 l6 e6 q7 l7 e7 q11 l11 e11 q12 l12 e12 q13 l13 e13 t hth hb2 HP HB hd1;rintro t W3 ⟨hsz,q1,q5,q11,q12,q13,hP,hB⟩;obtain ⟨l1,e1⟩:=gE q1;obtain ⟨l5,e5⟩:=gE q5;obtain ⟨l11,e11⟩:=gE q11;obtain ⟨l12,e12⟩:=gE q12;obtain ⟨l13,e13⟩:=gE q13;apply wp_region_lit
  repeat go_step
  try simp only [Exit.then]
  refine ⟨⟨_,k+1,rfl,by omega,by simp [hsz],by simp [q1],by simp [q5],by simp [q11],by simp [q12],by simp [hsz],hP,hB⟩,?_⟩
  ·simp [hsz,intOf]
   omega
 ·have hd:decide ((k:Int)<(R.length:Int))=false:=decide_eq_false (by omega);obtain ⟨l1,e1⟩:=gE q1;obtain ⟨l5,e5⟩:=gE q5;obtain ⟨l11,e11⟩:=gE q11;obtain ⟨l12,e12⟩:=gE q12;obtain ⟨l13,e13⟩:=gE q13
  refine wp_seq_h fun K hK=>?_
  apply wp_region_lit
  repeat (first | go_step)
  refine hK.out _ _ ?_;clear hK K
  refine wp_abw (fun t' W'=>t'.size=26∧t'[1]?=some (.func (.func 95) #[] #[])∧t'[5]?=some (.slice (some ⟨w.heap.size,0,none⟩) R.length R.length)∧t'[11]?=some (.slice A R.length c)∧t'[12]?=some (.int .i64 (R.length:Int))∧t'[13]?=some (.int .i64 (k:Int))∧t'[14]?=some (.bool false)∧W=W') ⟨by simp [hsz],by simp [q1],by simp [q5],by simp [q11],by simp [q12],by simp [q13],by simp [hsz,hd],rfl⟩ ?_
  clear hsz q1 l1 e1 q5 l5 e5 q11 l11 e11 q12 l12 e12 q13 l13 e13 t;rintro t _ ⟨hsz,q1,q5,q11,q12,q13,q14,rfl⟩
  refine wp_seq_h fun K1 hK1=>?_
  refine wp_cond_false (by simp [Act.eval,q14]) ?_;apply wp_exit;simp only [Exit.then,Exit.inBlock,if_true];refine hKE.out _ _ ?_;clear hd;obtain ⟨l1,e1⟩:=gE q1;obtain ⟨l5,e5⟩:=gE q5;obtain ⟨l11,e11⟩:=gE q11;obtain ⟨l12,e12⟩:=gE q12;obtain ⟨l13,e13⟩:=gE q13;obtain ⟨l14,e14⟩:=gE q14
  repeat go_step
  refine bodyPost_ret (results_tmp rfl _ _ _) rfl ?_;exact ⟨by simp [hsz],HP.out.whole (by simp) (by omega),HB.out⟩
theorem each_wl (A:Option Addr) (c:Nat) (R:List (List Value)) (U:List Value→List Value) (w:World) (h:RvK 37 w A R) (hl:∀ vs∈R,vs.length=37∧one vs) (hL:R.length≤1048576) (hU:∀ vs∈R,(U vs).length=9∧one (U vs))
  (hf:∀ vs∈R,∀ W,Below w.heap.size w W→Calls Tryz.prog 97 #[.agg vs.toArray] W fun e W'=>e=.returned (.agg (U vs).toArray)∧Below W.heap.size W W') :
  Calls Tryz.prog 96 #[.slice A R.length c,.func (.func 97) #[] #[]] w fun e w'=>e=.returned (.slice (some ⟨w.heap.size,0,none⟩) R.length R.length)∧RbK 9 w' w.heap.size 88 (R.map U)∧Below w.heap.size w w':=by
 obtain ⟨fm,hfm,hmk0⟩:=made_Place;have HR:=hD (show ∀ vs∈R.map U,vs.length=9 from fun vs hv=>by obtain ⟨us,hu,rfl⟩:=List.mem_map.1 hv;exact (hU us hu).1);have HU:=hD hU;have HF:=hD hf;have HH:=hD h;have HL:=hD hl;have HFM:=hD hfm;clear hU hf h hfm hl;refine calls_abs Tryz.func96 rfl 26 (by simp only [Tryz.ntmps96]) (by simp) (fun t hsz hargs=>?_)
 have q0:t[0]?=some (.slice A R.length c):=get_of (by omega) (hargs 0 _ rfl);have q1:t[1]?=some (.func (.func 97) #[] #[]):=get_of (by omega) (hargs 1 _ rfl);clear hargs;obtain ⟨l0,e0⟩:=gE q0;obtain ⟨l1,e1⟩:=gE q1
 refine wp_seq_h fun K hK=>?_
 apply wp_region_lit
 repeat (first | go_step)
 refine hK.out _ _ ?_;clear hK K;refine wp_abw (fun t' W'=>t'.size=26∧t'[0]?=some (.slice A R.length c)∧t'[1]?=some (.func (.func 97) #[] #[])∧w=W') ⟨by simp [hsz],by simp [q0],by simp [q1],rfl⟩ ?_;clear hsz q0 l0 e0 q1 l1 e1 t;rintro t _ ⟨hsz,q0,q1,rfl⟩;have hmk:=hmk0 R.length w hL;clear hmk0;obtain ⟨l0,e0⟩:=gE q0;obtain ⟨l1,e1⟩:=gE q1
 refine wp_seq_h fun K hK=>?_
 apply wp_region_lit
 repeat (first | go_step)
 refine hK.out _ _ ?_;clear hK K;refine wp_abw (fun t' W'=>t'.size=26∧t'[0]?=some (.slice A R.length c)∧t'[1]?=some (.func (.func 97) #[] #[])∧t'[5]?=some (.slice (some ⟨w.heap.size,0,none⟩) R.length R.length)∧RpK 9 W' w.heap.size 88 R.length 0 (R.map U)∧Below w.heap.size w W') ⟨by simp [hsz],by simp [q0],by simp [q1],by simp [hsz],⟨RpK.new _ (HFM.out _),balloc (Below.refl _ _)⟩⟩ ?_
 clear hsz q0 l0 e0 q1 l1 e1 t hmk;rintro t W0 ⟨hsz,q0,q1,q5,hP,hB⟩
 refine wp_seq_h fun KE hKE=>?_
 obtain ⟨l0,e0⟩:=gE q0;obtain ⟨l1,e1⟩:=gE q1;obtain ⟨l5,e5⟩:=gE q5
 refine wp_seq_h fun K hK=>?_
 apply wp_region_lit
 repeat (first | go_step)
 refine hK.out _ _ ?_;clear hK K;refine wp_abw (fun t' W'=>t'.size=26∧t'[1]?=some (.func (.func 97) #[] #[])∧t'[5]?=some (.slice (some ⟨w.heap.size,0,none⟩) R.length R.length)∧t'[11]?=some (.slice A R.length c)∧t'[12]?=some (.int .i64 (R.length:Int))∧t'[13]?=some (.int .i64 ((0:Nat):Int))∧W0=W') ⟨by simp [hsz],by simp [q1],by simp [q5],by simp [hsz],by simp [hsz],by simp [hsz],rfl⟩ ?_
 clear hsz q0 l0 e0 q1 l1 e1 q5 l5 e5 t;rintro t _ ⟨hsz,q1,q5,q11,q12,q13,rfl⟩;apply wp_block
 refine wp_loop (fun a W=>∃ (t:Array Value) (k:Nat),a=⟨t,[]⟩∧k≤R.length∧t.size=26∧t[1]?=some (.func (.func 97) #[] #[])∧t[5]?=some (.slice (some ⟨w.heap.size,0,none⟩) R.length R.length)∧t[11]?=some (.slice A R.length c)∧t[12]?=some (.int .i64 (R.length:Int))∧t[13]?=some (.int .i64 (k:Int))∧RpK 9 W w.heap.size 88 R.length k (R.map U)∧Below w.heap.size w W) (fun a _=>R.length-(intOf (a.tmps.getD 13 undef)).toNat) ⟨t,0,rfl,by omega,hsz,q1,q5,q11,q12,q13,hP,hB⟩ ?_
 clear t hsz q1 q5 q11 q12 q13 hP hB W0;rintro a W ⟨t,k,rfl,hk,hsz,q1,q5,q11,q12,q13,hP,hB⟩
 have hmu:intOf (t.getD 13 undef)=(k:Int):=by rw [Array.getD_eq_getD_getElem?,q13];rfl
 dsimp only
 rw [hmu];clear hmu;have HP:=hD hP;have HB:=hD hB;clear hP hB
 by_cases hlt:k<R.length
 ·have hd:decide ((k:Int)<(R.length:Int))=true:=by simpa using hlt
  obtain ⟨l1,e1⟩:=gE q1;obtain ⟨l5,e5⟩:=gE q5;obtain ⟨l11,e11⟩:=gE q11;obtain ⟨l12,e12⟩:=gE q12;obtain ⟨l13,e13⟩:=gE q13
  refine wp_seq_h fun K hK=>?_
  apply wp_region_lit
  repeat (first | go_step)
  refine hK.out _ _ ?_;clear hK K
  refine wp_abw (fun t' W'=>t'.size=26∧t'[1]?=some (.func (.func 97) #[] #[])∧t'[5]?=some (.slice (some ⟨w.heap.size,0,none⟩) R.length R.length)∧t'[11]?=some (.slice A R.length c)∧t'[12]?=some (.int .i64 (R.length:Int))∧t'[13]?=some (.int .i64 (k:Int))∧t'[14]?=some (.bool true)∧W=W') ⟨by simp [hsz],by simp [q1],by simp [q5],by simp [q11],by simp [q12],by simp [q13],by simp [hsz,hd],rfl⟩ ?_
  clear hsz q1 l1 e1 q5 l5 e5 q11 l11 e11 q12 l12 e12 q13 l13 e13 t;rintro t _ ⟨hsz,q1,q5,q11,q12,q13,q14,rfl⟩;clear hd
  refine wp_seq_h fun K1 hK1=>?_
  refine wp_cond_true (by simp [Act.eval,q14]) ?_;apply wp_skip;simp only [Exit.then];refine hK1.out _ _ ?_;clear hK1 K1 q14
  refine wp_seq_h fun KB hKB=>?_
  apply wp_block;have hget:R[k]?=some R[k]:=List.getElem?_eq_getElem hlt;obtain ⟨b,off,rfl,hb,hps⟩:=(HH.out.keep HB.out) (by omega);have hc:=hps k _ hget;have hll:=HL.out _ (List.mem_of_getElem? hget);obtain ⟨hlv,hov⟩:=hll;have hUv:=HU.out _ (List.mem_of_getElem? hget);obtain ⟨hul,huo⟩:=hUv;have hfv:=HF.out _ (List.mem_of_getElem? hget)
  have hmv:(R.map U)[k]?=some (U R[k]):=by rw [List.getElem?_map,hget];rfl
  obtain ⟨x,hx⟩:∃ x,R[k]=x:=⟨_,rfl⟩
  rw [hx] at hc hlv hov hul huo hfv hmv;have HC:=hD hc;have HLV:=hD hlv;have HOV:=hD hov;have HUL:=hD hul;have HUO:=hD huo;have HFV:=hD hfv;have HMV:=hD hmv;clear hget hps hc hlv hov hul huo hfv hmv hx
  have hd1:(k:Int)<(R.length:Int):=by omega
  obtain ⟨l1,e1⟩:=gE q1;obtain ⟨l5,e5⟩:=gE q5;obtain ⟨l11,e11⟩:=gE q11;obtain ⟨l12,e12⟩:=gE q12;obtain ⟨l13,e13⟩:=gE q13
  refine wp_seq_h fun K hK=>?_
  apply wp_region_lit
  repeat (first|((with_reducible show wpList _ _ _ _ _ _);refine ldK 98 _ x b (off+k*37) rfl rfl HC.out Tryz.underlying98 rfl (by rw [HLV.out];exact inf_widget) (by simp [Act.eval,hsz]) ?_)|((with_reducible show wpList _ _ _ _ _ _);refine allocK 98 37 rfl rfl infz_widget (fun z hz=>?_))|((with_reducible show wpList _ _ _ _ _ _);refine stK 98 (.tmp 7) _ x W.heap.size 0 rfl rfl (thereB (newS _ _) (by rw [HLV.out,hz];omega)) (by rw [HLV.out];exact inf_widget) HOV.out (by simp [Act.eval,hsz]) (by simp [Act.eval,hsz]) ?_) | go_step)
  refine hK.out _ _ ?_;clear hK K
  refine wp_abw (fun t' W'=>t'.size=26∧t'[1]?=some (.func (.func 97) #[] #[])∧t'[5]?=some (.slice (some ⟨w.heap.size,0,none⟩) R.length R.length)∧t'[6]?=some (.int .i64 (k:Int))∧t'[7]?=some (.pointer (some ⟨W.heap.size,0,none⟩))∧t'[11]?=some (.slice (some ⟨b,off,none⟩) R.length c)∧t'[12]?=some (.int .i64 (R.length:Int))∧t'[13]?=some (.int .i64 (k:Int))∧W'.rangeAt W.heap.size 0 x∧Below W.heap.size W W') ⟨by simp [hsz],by simp [q1],by simp [q5],by simp [hsz],by simp [hsz],by simp [q11],by simp [q12],by simp [q13],⟨World.rangeAt_setCells_same _ _ _ _ (thereB (newS _ _) (by rw [HLV.out,hz];omega)),below_setCells (Nat.le_refl _) _ _ _ (balloc (Below.refl _ _))⟩⟩ ?_
  clear hsz q1 l1 e1 q5 l5 e5 q11 l11 e11 q12 l12 e12 q13 l13 e13 t hd1 z hz;rintro t W1 ⟨hsz,q1,q5,q6,q7,q11,q12,q13,hx1,hb1⟩;have HX1:=hD hx1;have hwg:=HP.out.lt;replace HP:=hD (HP.out.keep hb1);replace HB:=hD (bkeep2 HB.out hb1);clear hx1 hb1 HC
  have hd1:(k:Int)<(R.length:Int):=by omega
  obtain ⟨l1,e1⟩:=gE q1;obtain ⟨l5,e5⟩:=gE q5;obtain ⟨l6,e6⟩:=gE q6;obtain ⟨l7,e7⟩:=gE q7;obtain ⟨l11,e11⟩:=gE q11;obtain ⟨l12,e12⟩:=gE q12;obtain ⟨l13,e13⟩:=gE q13;apply wp_region_lit
  repeat (first|((with_reducible show wpList _ _ _ _ _ _);refine ldK 98 _ x W.heap.size 0 rfl rfl HX1.out Tryz.underlying98 rfl (by rw [HLV.out];exact inf_widget) (by simp [Act.eval,hsz,e7]) ?_) | go_step)
  refine (HFV.out _ HB.out).mono ?_;rintro e W2 ⟨rfl,hb2⟩
  dsimp only
  have hth:W2.there w.heap.size (k*9) (U x).length:=by rw [HUL.out];exact (HP.out.keep hb2).there hlt
  repeat (first|((with_reducible show wpList _ _ _ _ _ _);refine stK 88 _ _ (U x) w.heap.size (k*9) rfl rfl hth (by rw [HUL.out];exact inf_Place) HUO.out (by simp [Act.eval,hsz,hd1]) (by simp [Act.eval,hsz]) ?_) | go_step)
  try simp only [Exit.inBlock]
  refine hKB.out _ _ ?_;clear hKB KB
  refine wp_abw (fun t' W'=>t'.size=26∧t'[1]?=some (.func (.func 97) #[] #[])∧t'[5]?=some (.slice (some ⟨w.heap.size,0,none⟩) R.length R.length)∧t'[11]?=some (.slice (some ⟨b,off,none⟩) R.length c)∧t'[12]?=some (.int .i64 (R.length:Int))∧t'[13]?=some (.int .i64 (k:Int))∧RpK 9 W' w.heap.size 88 R.length (k+1) (R.map U)∧Below w.heap.size w W') ⟨by simp [hsz],by simp [q1],by simp [q5],by simp [q11],by simp [q12],by simp [q13],⟨(HP.out.keep hb2).step HR.out HMV.out hlt,below_setCells (Nat.le_refl _) _ _ _ (bkeep2 HB.out hb2)⟩⟩ ?_
  clear hsz q1 l1 e1 q5 l5 e5 q6 l6 e6 q7 l7 e7 q11 l11 e11 q12 l12 e12 q13 l13 e13 t hth hb2 HP HB hd1;rintro t W3 ⟨hsz,q1,q5,q11,q12,q13,hP,hB⟩;obtain ⟨l1,e1⟩:=gE q1;obtain ⟨l5,e5⟩:=gE q5;obtain ⟨l11,e11⟩:=gE q11;obtain ⟨l12,e12⟩:=gE q12;obtain ⟨l13,e13⟩:=gE q13;apply wp_region_lit
  repeat go_step
  try simp only [Exit.then]
  refine ⟨⟨_,k+1,rfl,by omega,by simp [hsz],by simp [q1],by simp [q5],by simp [q11],by simp [q12],by simp [hsz],hP,hB⟩,?_⟩
  ·simp [hsz,intOf]
   omega
 ·have hd:decide ((k:Int)<(R.length:Int))=false:=decide_eq_false (by omega);obtain ⟨l1,e1⟩:=gE q1;obtain ⟨l5,e5⟩:=gE q5;obtain ⟨l11,e11⟩:=gE q11;obtain ⟨l12,e12⟩:=gE q12;obtain ⟨l13,e13⟩:=gE q13
  refine wp_seq_h fun K hK=>?_
  apply wp_region_lit
  repeat (first | go_step)
  refine hK.out _ _ ?_;clear hK K
  refine wp_abw (fun t' W'=>t'.size=26∧t'[1]?=some (.func (.func 97) #[] #[])∧t'[5]?=some (.slice (some ⟨w.heap.size,0,none⟩) R.length R.length)∧t'[11]?=some (.slice A R.length c)∧t'[12]?=some (.int .i64 (R.length:Int))∧t'[13]?=some (.int .i64 (k:Int))∧t'[14]?=some (.bool false)∧W=W') ⟨by simp [hsz],by simp [q1],by simp [q5],by simp [q11],by simp [q12],by simp [q13],by simp [hsz,hd],rfl⟩ ?_
  clear hsz q1 l1 e1 q5 l5 e5 q11 l11 e11 q12 l12 e12 q13 l13 e13 t;rintro t _ ⟨hsz,q1,q5,q11,q12,q13,q14,rfl⟩
  refine wp_seq_h fun K1 hK1=>?_
  refine wp_cond_false (by simp [Act.eval,q14]) ?_;apply wp_exit;simp only [Exit.then,Exit.inBlock,if_true];refine hKE.out _ _ ?_;clear hd;obtain ⟨l1,e1⟩:=gE q1;obtain ⟨l5,e5⟩:=gE q5;obtain ⟨l11,e11⟩:=gE q11;obtain ⟨l12,e12⟩:=gE q12;obtain ⟨l13,e13⟩:=gE q13;obtain ⟨l14,e14⟩:=gE q14
  repeat go_step
  refine bodyPost_ret (results_tmp rfl _ _ _) rfl ?_;exact ⟨by simp [hsz],HP.out.whole (by simp) (by omega),HB.out⟩
end Go.Proofs.YtmmfifgdgbmgjaaGreat
