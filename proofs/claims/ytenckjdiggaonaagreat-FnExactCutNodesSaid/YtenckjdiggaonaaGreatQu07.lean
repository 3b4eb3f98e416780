import Derived.Test.YtenckjdiggaonaaGreatQu06
set_option linter.unusedVariables false
set_option linter.unusedSimpArgs false
set_option maxRecDepth 100000
set_option maxHeartbeats 16000000
namespace Go.Proofs.YtenckjdiggaonaaGreat
open Go.RowKit
attribute [local go_sem] growUpon_value growUpon_skip growUpon_enter
section
def lineB (l:Ln):Bool:=wB l.wt && rng l.mi 0 30
def linesB (L:List Ln):Bool:=rng L.length 1 5 && L.all lineB
def runB (a m n:Int):Bool:=rng a 0 (n - 1) && rng m 1 (n - a)
def spanB (n:Int) (s:Sp):Bool:=runB s.sa s.many n && rng s.need 0 50
def spansB (n:Int) (L:List Sp):Bool:=decide ((L.length:Int)≤8) && L.all (spanB n)
theorem all_snocG {α:Type} {f:α→Bool} {L:List α} {k:Nat} {p:α} (h:L[k]?=some p):(L.take (k+1)).all f=((L.take k).all f && f p):=by
 have hk:k<L.length:=(List.getElem?_eq_some_iff.1 h).1;have e:L[k]=p:=(List.getElem?_eq_some_iff.1 h).2;rw [List.take_succ_eq_append_getElem hk,e]
 simp
theorem all_falseG {α:Type} {f:α→Bool} {L:List α} {k:Nat} {p:α} (h:L[k]?=some p) (hp:f p=false):L.all f=false:=by
 rw [Bool.eq_false_iff];intro hh;have h1:=List.all_eq_true.1 hh p (List.mem_of_getElem? h);rw [hp] at h1
 cases h1
theorem validLine_v (l:Ln) (b:Bool) (w:World) (hb:lineB l=b):Calls Tryz.prog 177 #[.agg #[.int .i64 l.wt,.int .i64 l.mi]] w fun e w'=>e=.returned (.bool b)∧Below w.heap.size w w':=by
 cases h1:wB l.wt
 ·have hbf:b=false:=by rw [<- hb];simp [lineB,h1]
  subst hbf
  go_enter Tryz.func177,Tryz.ntmps177
  go_wp2_with fail
  with_reducible refine (validWeight_w _ false _ h1).mono ?_
  rintro e w1 ⟨rfl,rfl⟩;go_wp2;go_ret;exact ⟨rfl,balloc (Below.refl _ _)⟩
 ·have h2:rng l.mi 0 30=b:=by rw [<- hb];simp [lineB,h1]
  cases b
  all_goals
   go_enter Tryz.func177,Tryz.ntmps177
   go_wp2_with fail
   with_reducible refine (validWeight_w _ true _ h1).mono ?_
   rintro e w1 ⟨rfl,rfl⟩
   go_wp2_with fail
   with_reducible refine (within_w _ 0 30 _ _ h2).mono ?_
   rintro e w1 ⟨rfl,rfl⟩;go_wp2;go_ret;exact ⟨rfl,balloc (Below.refl _ _)⟩
theorem allOfLn_v (A:Option Addr) (c:Nat) (L:List Ln) (b:Bool) (w:World) (h:LnV w A L) (hL:L.length≤1048576) (hb0:L.all lineB=b) :
  Calls Tryz.prog 176 #[.slice A L.length c,.func (.func 177) #[] #[]] w fun e w'=>e=.returned (.bool b)∧Below w.heap.size w w':=by
 have HB0:=hD hb0;clear hb0
 go_enter Tryz.func176,Tryz.ntmps176
 go_wp2_with fail
 go_loopw [9] (fun i wr=>∃ k:Nat,k≤L.length∧i=.int .i64 k∧(L.take k).all lineB=true∧Below w.heap.size w wr) (fun i _=>L.length - (intOf i).toNat)
 case atStart=>exact ⟨0,by omega,rfl,rfl,Below.refl _ _⟩
 case round =>
  obtain ⟨k,hk,rfl,hok,hB⟩:=hrel
  by_cases hlt:k<L.length
  ·have hd:decide ((k:Int)<(L.length:Int))=true:=by simpa using hlt
   obtain ⟨b',off,rfl,hb',hp⟩:=(h.keep hB).cells (by omega);have hget:L[k]?=some L[k]:=List.getElem?_eq_getElem hlt;obtain ⟨c0,c1⟩:=hp k _ hget;generalize hx:L[k]=p at *;have HG:=hD hget;have HX:=hD hx;have HO:=hD hok;have HBB:=hD hB;clear hget hx hok hB hp
   cases hv:lineB p
   all_goals
    have Hv:=hD hv;clear hv
    go_wp2_with fail
    first | (with_reducible refine (validLine_v p false _ Hv.out).mono ?_) | (with_reducible refine (validLine_v p true _ Hv.out).mono ?_)
    rintro e w1 ⟨rfl,hb1⟩;replace HBB:=hD (bkeep2 (balloc HBB.out) hb1);clear hb1 c0 c1;go_wp2
   ·go_ret;exact ⟨ret_bool (by rw [<- HB0.out];exact (all_falseG HG.out Hv.out).symm),HBB.out⟩
   ·go_roundw
    case rel=>exact ⟨k+1,by omega,by go_num,by rw [all_snocG HG.out,HO.out,Hv.out];rfl,HBB.out⟩
    case measure=>simp [intOf];omega
  ·have hd:decide ((k:Int)<(L.length:Int))=false:=decide_eq_false (by omega);have he:L.take k=L:=List.take_of_length_le (by omega);rw [he] at hok;have HO:=hD hok;have HBB:=hD hB;clear hok hB he;go_wp2;go_ret;exact ⟨ret_bool (by rw [<- HB0.out,HO.out]),HBB.out⟩
theorem validLines_v (A:Option Addr) (c:Nat) (L:List Ln) (b:Bool) (w:World) (h:LnV w A L) (hL:L.length≤1048576) (hb:linesB L=b) :
  Calls Tryz.prog 160 #[.slice A L.length c] w fun e w'=>e=.returned (.bool b)∧Below w.heap.size w w':=by
 cases h1:rng (L.length:Int) 1 5
 ·have hbf:b=false:=by rw [<- hb];simp [linesB,h1]
  subst hbf
  go_enter Tryz.func160,Tryz.ntmps160
  go_wp2_with fail
  with_reducible refine (within_w _ 1 5 false _ h1).mono ?_
  rintro e w1 ⟨rfl,rfl⟩;go_wp2;go_ret;exact ⟨rfl,Below.refl _ _⟩
 ·have h2:L.all lineB=b:=by rw [<- hb];simp [linesB,h1]
  cases b
  all_goals
   go_enter Tryz.func160,Tryz.ntmps160
   go_wp2_with fail
   with_reducible refine (within_w _ 1 5 true _ h1).mono ?_
   rintro e w1 ⟨rfl,rfl⟩
   go_wp2_with fail
   with_reducible refine (allOfLn_v A c L _ _ h hL h2).mono ?_
   rintro e w1 ⟨rfl,hb1⟩;have HB:=hD hb1;clear hb1;go_wp2;go_ret;exact ⟨rfl,HB.out⟩
theorem validRun_v (a m n:Int) (b:Bool) (w:World) (hn:1≤n) (hn5:n≤5) (hb:runB a m n=b):Calls Tryz.prog 166 #[.int .i64 a,.int .i64 m,.int .i64 n] w fun e w'=>e=.returned (.bool b)∧w=w':=by
 cases h1:rng a 0 (n - 1)
 ·have hbf:b=false:=by rw [<- hb];simp [runB,h1]
  subst hbf
  go_enter Tryz.func166,Tryz.ntmps166
  go_wp2_with fail
  with_reducible refine (within_w _ 0 (n - 1) false _ h1).mono ?_
  rintro e w1 ⟨rfl,rfl⟩;go_wp2;go_ret;exact ⟨rfl,rfl⟩
 ·have h2:rng m 1 (n - a)=b:=by rw [<- hb];simp [runB,h1]
  have ha:=rng_iff.1 h1
  cases b
  all_goals
   go_enter Tryz.func166,Tryz.ntmps166
   go_wp2_with fail
   with_reducible refine (within_w _ 0 (n - 1) true _ h1).mono ?_
   rintro e w1 ⟨rfl,rfl⟩
   go_wp2_with fail
   with_reducible refine (within_w _ 1 (n - a) _ _ h2).mono ?_
   rintro e w1 ⟨rfl,rfl⟩;go_wp2;go_ret;exact ⟨rfl,rfl⟩
end
section
theorem svalidLine_v (l:Ln) (b:Bool) (w:World) (hb:lineB l=b):Calls Tryz.prog 152 #[.agg #[.int .i64 l.wt,.int .i64 l.mi]] w fun e w'=>e=.returned (.bool b)∧Below w.heap.size w w':=by
 cases h1:wB l.wt
 ·have hbf:b=false:=by rw [<- hb];simp [lineB,h1]
  subst hbf
  go_enter Tryz.func152,Tryz.ntmps152
  go_wp2_with fail
  with_reducible refine (inRange_b _ false _ h1).mono ?_
  rintro e w1 ⟨rfl,rfl⟩;go_wp2;go_ret;exact ⟨rfl,balloc (Below.refl _ _)⟩
 ·have h2:rng l.mi 0 30=b:=by rw [<- hb];simp [lineB,h1]
  cases b
  all_goals
   go_enter Tryz.func152,Tryz.ntmps152
   go_wp2_with fail
   with_reducible refine (inRange_b _ true _ h1).mono ?_
   rintro e w1 ⟨rfl,rfl⟩
   go_wp2_with fail
   with_reducible refine (inRange_w _ 0 30 _ _ h2).mono ?_
   rintro e w1 ⟨rfl,rfl⟩;go_wp2;go_ret;exact ⟨rfl,balloc (Below.refl _ _)⟩
theorem svalidLines_v (A:Option Addr) (c:Nat) (L:List Ln) (b:Bool) (w:World) (h:LnV w A L) (hL:L.length≤1048576) (hb0:linesB L=b) :
  Calls Tryz.prog 112 #[.slice A L.length c] w fun e w'=>e=.returned (.bool b)∧Below w.heap.size w w':=by
 have HB0:=hD hb0;clear hb0
 go_enter Tryz.func112,Tryz.ntmps112
 go_wp2_with fail
 go_loopw [3] (fun i wr=>∃ k:Nat,k≤L.length∧i=.int .i64 k∧(L.take k).all lineB=true∧Below w.heap.size w wr) (fun i _=>L.length - (intOf i).toNat)
 case atStart=>exact ⟨0,by omega,rfl,rfl,Below.refl _ _⟩
 case round =>
  obtain ⟨k,hk,rfl,hok,hB⟩:=hrel
  by_cases hlt:k<L.length
  ·have hd:decide ((k:Int)<(L.length:Int))=true:=by simpa using hlt
   obtain ⟨b',off,rfl,hb',hp⟩:=(h.keep hB).cells (by omega);have hget:L[k]?=some L[k]:=List.getElem?_eq_getElem hlt;obtain ⟨c0,c1⟩:=hp k _ hget;generalize hx:L[k]=p at *;have HG:=hD hget;have HX:=hD hx;have HO:=hD hok;have HBB:=hD hB;clear hget hx hok hB hp
   cases hv:lineB p
   all_goals
    have Hv:=hD hv;clear hv
    go_wp2_with fail
    first | (with_reducible refine (svalidLine_v p false _ Hv.out).mono ?_) | (with_reducible refine (svalidLine_v p true _ Hv.out).mono ?_)
    rintro e w1 ⟨rfl,hb1⟩;replace HBB:=hD (bkeep2 HBB.out hb1);clear hb1 c0 c1;go_wp2
   ·go_ret;exact ⟨ret_bool (by rw [<- HB0.out];simp [linesB,all_falseG HG.out Hv.out]),HBB.out⟩
   ·go_roundw
    case rel=>exact ⟨k+1,by omega,by go_num,by rw [all_snocG HG.out,HO.out,Hv.out];rfl,HBB.out⟩
    case measure=>simp [intOf];omega
  ·have hd:decide ((k:Int)<(L.length:Int))=false:=decide_eq_false (by omega);have he:L.take k=L:=List.take_of_length_le (by omega);rw [he] at hok
   have h1:rng (L.length:Int) 1 5=b:=by rw [<- HB0.out];simp [linesB,hok]
   have HBB:=hD hB;have H1:=hD h1;clear hok hB he h1
   go_wp2_with fail
   with_reducible refine (inRange_w _ 1 5 b _ H1.out).mono ?_
   rintro e w1 ⟨rfl,rfl⟩;go_wp2;go_ret;exact ⟨rfl,HBB.out⟩
def addP:List Int→List Int→List Int
 | o :: os,p :: ps=>(o+p) :: addP os ps
 | os,_=>os
theorem addP_nil (O:List Int):addP O []=O:=by cases O <;> rfl
theorem addP_len:∀ (O P:List Int),(addP O P).length=O.length
 | [],P=>by simp [addP]
 | o :: os,[]=>rfl
 | o :: os,p :: ps=>by simp [addP,addP_len os ps]
theorem addP_get:∀ {O P:List Int} {i:Nat} {o:Int},O[i]?=some o→P.length≤i→(addP O P)[i]?=some o
 | [],P,i,o,h,_=>by simp at h
 | x :: os,[],i,o,h,_=>h
 | x :: os,p :: ps,0,o,h,hl=>by simp at hl
 | x :: os,p :: ps,i+1,o,h,hl=>by
  simp at h hl
  simpa [addP] using addP_get h hl
theorem addP_snoc:∀ {O P:List Int} {i:Nat} {o p:Int},O[i]?=some o→P[i]?=some p→(addP O (P.take i)).set i (o+p)=addP O (P.take (i+1))
 | [],P,i,o,p,h,_=>by simp at h
 | x :: os,[],i,o,p,_,h=>by simp at h
 | x :: os,q :: ps,0,o,p,h,hp=>by
  simp at h hp
  subst h hp
  simp [addP,addP_nil]
 | x :: os,q :: ps,i+1,o,p,h,hp=>by
  simp at h hp
  simp [addP,addP_snoc h hp]
def addAt (O:List Int) (k:Nat) (P:List Int):List Int:=O.take k ++ addP (O.drop k) P
theorem addAt_len (O:List Int) (k:Nat) (P:List Int):(addAt O k P).length=O.length:=by
 unfold addAt;rw [List.length_append,addP_len,List.length_take,List.length_drop];omega
theorem addAt_nil (O:List Int) (k:Nat):addAt O k []=O:=by simp [addAt,addP_nil]
theorem addAt_get {O P:List Int} {k i:Nat} {o:Int} (h:O[k+i]?=some o) (hl:P.length≤i):(addAt O k P)[k+i]?=some o:=by
 have hk:=(List.getElem?_eq_some_iff.1 h).1
 have e:(O.take k).length=k:=by rw [List.length_take];omega
 unfold addAt;rw [List.getElem?_append_right (by omega),e,Nat.add_sub_cancel_left];exact addP_get (by rw [List.getElem?_drop];exact h) hl
theorem addAt_snoc {O P:List Int} {k i:Nat} {o p:Int} (h:O[k+i]?=some o) (hp:P[i]?=some p):(addAt O k (P.take i)).set (k+i) (o+p)=addAt O k (P.take (i+1)):=by
 have hk:=(List.getElem?_eq_some_iff.1 h).1
 have e:(O.take k).length=k:=by rw [List.length_take];omega
 unfold addAt;rw [List.set_append_right _ _ (by omega),e,Nat.add_sub_cancel_left,addP_snoc (by rw [List.getElem?_drop];exact h) hp]
end
section
theorem below_grownI {w w':World} {B:Nat} {row:Option Nat} (h:w.grownBy w' row) (hr:∀ g,row=some g→B≤g) (hB:B≤w.heap.size):Below B w w' :=
 ⟨h.os,h.tape,h.output,h.size,fun k hk=>h.block k (by omega) (fun e=>by have:=hr k e.symm;omega)⟩
theorem gsetI {w w':World} {g:Nat} (h:w.grownBy w' (some g)) (o:Nat) (v:Value):w.grownBy (w'.setCell ⟨g,o,none⟩ v) (some g) :=
 ⟨h.os,h.tape,h.output,by simpa [World.setCell] using h.size,fun k hk hne=>(Below.heap_setCell w' ⟨g,o,none⟩ v k (by rintro rfl;exact hne rfl)).trans (h.block k hk hne)⟩
theorem greflI (w:World) (g:Nat):w.grownBy w (some g):=⟨rfl,rfl,rfl,Nat.le_refl _,fun _ _ _=>rfl⟩
def NR (w:World) (v:Value) (L:List Int):Prop:=∃ A c,v=.slice A L.length c∧NV w A L
theorem NR.keep {w w':World} {v:Value} {L:List Int} (h:NR w v L) (hb:Below w.heap.size w w'):NR w' v L:=let ⟨A,c,e,n⟩:=h;⟨A,c,e,n.keep hb⟩
theorem IB.nr {w:World} {g n:Nat} {L:List Int} (h:IB w g L) (hn:n=L.length) (m:Nat):NR w (.slice (some ⟨g,0,none⟩) n m) L:=⟨_,m,by rw [hn],h.nv⟩
theorem IB.but {w w':World} {g h:Nat} {L:List Int} (hi:IB w h L) (hg:w.grownBy w' (some g)) (hne:h ≠ g):IB w' h L:=(hg.block h hi.lt (fun e=>hne (Option.some.inj e))).trans hi
def GI (lo:Nat) (w:World) (v:Value) (L:List Int):Prop:=(v=.slice none 0 0∧L=[]) ∨ ∃ g n,v=.slice (some ⟨g,0,none⟩) n n∧n=L.length∧lo≤g∧IB w g L
theorem GI.nr {lo:Nat} {w:World} {v:Value} {L:List Int} (h:GI lo w v L):NR w v L:=by
 rcases h with ⟨rfl,rfl⟩ | ⟨g,n,rfl,hn,_,hk⟩
 ·exact ⟨none,0,rfl,NV.nil _ _⟩
 ·exact hk.nr hn n
theorem GI.keep {lo:Nat} {w w':World} {v:Value} {L:List Int} (h:GI lo w v L) (hb:Below w.heap.size w w'):GI lo w' v L:=h.imp id fun ⟨g,n,h1,h2,h3,hk⟩=>⟨g,n,h1,h2,h3,hk.keep hb⟩
theorem GI.but {lo g0:Nat} {w w':World} {v:Value} {L:List Int} (h:GI lo w v L) (hb:w.grownBy w' (some g0)) (hg:g0<lo):GI lo w' v L:=h.imp id fun ⟨g,n,h1,h2,h3,hk⟩=>⟨g,n,h1,h2,h3,hk.but hb (by omega)⟩
def MKI (n:Nat):List Int:=(List.range n).map (fun i:Nat=>(i:Int)+1)
def GIM (w:World) (v:Value) (n:Nat):Prop:=(v=.slice none 0 0∧n=0) ∨ ∃ g,v=.slice (some ⟨g,0,none⟩) n n∧IB w g (MKI n)
theorem GIM.keep {w w':World} {v:Value} {n:Nat} (h:GIM w v n) (hb:Below w.heap.size w w'):GIM w' v n:=h.imp id fun ⟨g,h1,hk⟩=>⟨g,h1,hk.keep hb⟩
theorem eqIntS_same (v v':Value) (L:List Int) (w:World) (h:NR w v L) (h':NR w v' L) (hL:L.length≤1048576) :
  Calls Tryz.prog 23 #[v,v'] w fun e w'=>e=.returned (.bool true)∧Below w.heap.size w w':=by
 obtain ⟨A,c,rfl,h⟩:=h;obtain ⟨B,c',rfl,h'⟩:=h'
 go_enter Tryz.func23,Tryz.ntmps23
 go_wp2_with fail
 go_loopw [5] (fun i wr=>∃ k:Nat,k≤L.length∧i=.int .i64 k∧Below w.heap.size w wr) (fun i _=>L.length - (intOf i).toNat)
 case atStart=>exact ⟨0,by omega,rfl,Below.refl _ _⟩
 case round =>
  obtain ⟨k,hk,rfl,hB⟩:=hrel
  by_cases hlt:k<L.length
  ·have hd:decide ((k:Int)<(L.length:Int))=true:=by simpa using hlt
   obtain ⟨b,off,rfl,hb,hp⟩:=(h.keep hB).cells (by omega);obtain ⟨b',off',rfl,hb',hp'⟩:=(h'.keep hB).cells (by omega);have hget:L[k]?=some L[k]:=List.getElem?_eq_getElem hlt;have c0:=hp k _ hget;have d0:=hp' k _ hget;generalize hx:L[k]=x at *;have HB:=hD hB;clear hget hx hp hp' hB
   go_wp2_with fail
   refine wp_region_grow 9 0 (·<9) (by kernel_rfl) (by kernel_rfl) rfl ?_
   iterate 9 (refine wpG_step (fun K hK=>?_);first | (refine grow_skip rfl ?_;go_simp;refine hK _ ?_;clear hK K) | (apply Exists.intro;refine ⟨.inl ⟨rfl,fun w' hw'=>?_⟩,?_⟩;(focus ((obtain ⟨hc,hf⟩:=bcell hw'.out);(have hcS:=bcellS hw'.out);go_simp <;> first | rfl | (fail)));(go_simp;refine hK _ ?_;clear hK K)))
   refine wpG_nil ?_;refine wpK_tail (by kernel_rfl) (fun w1 hg1=>?_);have hb1:=bdrewn hg1.out;refine wpAny_end (by kernel_rfl) ?_;refine NoPan.thn ?_;clear hg1;replace HB:=hD (HB.out.trans (hb1.mono HB.out.size));clear hb1 c0 d0;go_wp2
   go_roundw
   case rel=>exact ⟨k+1,by omega,by go_num,HB.out⟩
   case measure=>simp [intOf];omega
  ·have hd:decide ((k:Int)<(L.length:Int))=false:=by simp;omega
   have HB:=hD hB;clear hB;go_wp2;go_ret;exact ⟨rfl,HB.out⟩
end
section
theorem ones_get:∀ {m:Int} {ws bs:List Int} {k:Nat} {x b:Int},ws[k]?=some x→bs[k]?=some b→∃ y,(onesM m ws bs)[k]?=some y∧(y=b ∨ (y=b+1∧0<x))
 | m,[],bs,k,x,b,hx,_=>by simp at hx
 | m,z :: ws,[],k,x,b,_,hb=>by simp at hb
 | m,z :: ws,c :: bs,0,x,b,hx,hb=>by
  simp at hx hb
  subst hx hb;unfold onesM
  split
  ·rename_i h;exact ⟨_,rfl,.inr ⟨rfl,h.1⟩⟩
  ·exact ⟨_,rfl,.inl rfl⟩
 | m,z :: ws,c :: bs,k+1,x,b,hx,hb=>by
  simp at hx hb
  unfold onesM
  split
  ·simpa using ones_get (m:=m - 1) hx hb
  ·simpa using ones_get (m:=m) hx hb
theorem ones_sum:∀ {m:Int} {ws bs:List Int},ws.length=bs.length→0≤m→m≤cntP ws→sumI (onesM m ws bs)=sumI bs+m
 | m,[],[],_,h0,h1=>by simp [cntP] at h1;simp [onesM,sumI];omega
 | m,[],b :: bs,h,_,_=>by simp at h
 | m,x :: ws,[],h,_,_=>by simp at h
 | m,x :: ws,b :: bs,h,h0,h1=>by
  have hl:ws.length=bs.length:=by simpa using h
  simp only [cntP] at h1;have hc:=(cntP_bd ws).1;unfold onesM
  split
  ·rename_i hp
   rw [if_pos hp.1] at h1;have ih:=ones_sum (m:=m - 1) hl (by omega) (by omega);simp only [sumI,ih];omega
  ·rename_i hp
   by_cases hx:0<x
   ·have hm:m=0:=by
     by_cases hm:0<m
     ·exact absurd ⟨hx,hm⟩ hp
     ·omega
    subst hm;have ih:=ones_sum (m:=0) hl (by omega) hc;simp only [sumI,ih];omega
   ·rw [if_neg hx] at h1;have ih:=ones_sum (m:=m) hl h0 (by omega);simp only [sumI,ih];omega
theorem sum_replicate:∀ k:Nat,sumI (List.replicate k 0)=0
 | 0=>rfl
 | k+1=>by rw [List.replicate_succ];simp [sumI,sum_replicate k]
theorem spread_sum {n:Int} {ws:List Int} (hn:0≤n) (h:wsOK ws):sumI (spreadM n ws)=n:=by
 unfold spreadM
 split
 ·obtain ⟨j,hj⟩:∃ j,ws.length=j+1:=⟨ws.length - 1,by have:=h.2.1;omega⟩
  have e:ws.length - 1=j:=by omega
  rw [e,hj,List.replicate_succ',List.set_append_right _ _ (by simp)]
  simp [sumI_append,sum_replicate,sumI]
 ·rename_i hS
  obtain ⟨m0,m1⟩:=miss_bd hn h.nn hS;rw [ones_sum (by rw [baseM_len]) m0 m1];omega
theorem spread_get {n:Int} {ws:List Int} {k:Nat} {x:Int} (hn:0≤n) (h:wsOK ws) (hx:ws[k]?=some x):∃ y,(spreadM n ws)[k]?=some y∧0≤y∧y≤n ∧
  (0<sumI ws→(x=0→y=0)∧y*sumI ws≤n*x+sumI ws∧n*x - sumI ws≤y*sumI ws):=by
 obtain ⟨hk,e⟩:=List.getElem?_eq_some_iff.1 hx;have hxm:x ∈ ws:=List.mem_of_getElem? hx;have hx0:=h.nn x hxm;have hxs:=mem_le_sum h.nn x hxm;have hs0:=h.sum
 by_cases hS:sumI ws=0
 ·have hl:=spreadM_len (n:=n) (ws:=ws);refine ⟨(spreadM n ws)[k]'(by omega),List.getElem?_eq_getElem (by omega),?_,?_,fun h0=>by omega⟩
  ·have e1:(spreadM n ws)=(List.replicate ws.length 0).set (ws.length - 1) n:=by unfold spreadM;rw [if_pos hS]
   simp only [e1,List.getElem_set,List.getElem_replicate]
   split <;> omega
  ·have e1:(spreadM n ws)=(List.replicate ws.length 0).set (ws.length - 1) n:=by unfold spreadM;rw [if_pos hS]
   simp only [e1,List.getElem_set,List.getElem_replicate]
   split <;> omega
 ·have hSp:0<sumI ws:=by omega
  have hsum:=spread_sum hn h;have hb:=base_get (n:=n) (S:=sumI ws) hx;obtain ⟨b0,b1⟩:=base_bd hn hSp hx0 hxs;obtain ⟨y,hy,hyb⟩:=ones_get (m:=n - sumI (baseM n (sumI ws) ws)) hx hb
  have e1:spreadM n ws=onesM (n - sumI (baseM n (sumI ws) ws)) ws (baseM n (sumI ws) ws):=by unfold spreadM;rw [if_neg hS]
  rw [<- e1] at hy
  have hnn:∀ z ∈ spreadM n ws,0≤z:=fun z hz=>by
   obtain ⟨i,hi,ez⟩:=List.mem_iff_getElem.1 hz;have hl:=spreadM_len (n:=n) (ws:=ws)
   have hi':i<ws.length:=by omega
   have hxi:=List.getElem?_eq_getElem hi';obtain ⟨y',hy',hyb'⟩:=ones_get (m:=n - sumI (baseM n (sumI ws) ws)) hxi (base_get (n:=n) (S:=sumI ws) hxi);rw [<- e1,List.getElem?_eq_getElem hi,ez] at hy';obtain rfl:=Option.some.inj hy'
   have:=(base_bd hn hSp (h.nn _ (List.getElem_mem hi')) (mem_le_sum h.nn _ (List.getElem_mem hi'))).1
   omega
  have hyn:=mem_le_sum hnn y (List.mem_of_getElem? hy);rw [hsum] at hyn;have em:=Int.mul_ediv_add_emod (n*x) (sumI ws);have r0:=Int.emod_nonneg (n*x) hS;have r1:=Int.emod_lt_of_pos (n*x) hSp;refine ⟨y,hy,by omega,hyn,fun _=>⟨fun hx00=>?_,?_,?_⟩⟩
  ·subst hx00
   rcases hyb with rfl | ⟨_,h0⟩
   ·simp
   ·omega
  ·generalize n*x / sumI ws=q at *;generalize (n*x) % sumI ws=r at *;generalize sumI ws=S at *
   rcases hyb with rfl | ⟨rfl,_⟩
   ·rw [Int.mul_comm y S];omega
   ·rw [Int.add_mul,Int.one_mul,Int.mul_comm q S];omega
  ·generalize n*x / sumI ws=q at *;generalize (n*x) % sumI ws=r at *;generalize sumI ws=S at *
   rcases hyb with rfl | ⟨rfl,_⟩
   ·rw [Int.mul_comm y S];omega
   ·rw [Int.add_mul,Int.one_mul,Int.mul_comm q S];omega
end
section
attribute [local go_sem 5000] run_mx run_mn
theorem least_v (l:Ln) (w:World):Calls Tryz.prog 218 #[.agg #[.int .i64 l.wt,.int .i64 l.mi]] w fun e w'=>e=.returned (.int .i64 l.mi)∧Below w.heap.size w w':=by
 go_enter Tryz.func218,Tryz.ntmps218
 go_wp2;go_ret;exact ⟨rfl,balloc (Below.refl _ _)⟩
theorem each_least (A:Option Addr) (c:Nat) (L:List Ln) (w:World) (h:LnV w A L) (hL:L.length≤1048576) :
  Calls Tryz.prog 214 #[.slice A L.length c,.func (.func 218) #[] #[]] w fun e w'=>e=.returned (.slice (some ⟨w.heap.size,0,none⟩) L.length L.length)∧IB w' w.heap.size (L.map Ln.mi)∧Below w.heap.size w w':=by
 have hmk:∀ w:World,(Instr.makeSlice 37 (.int .i64 (L.length:Int)) (.int .i64 (L.length:Int))).run Tryz.prog w=.ok (.slice (some ⟨w.heap.size,0,none⟩) L.length L.length) (w.alloc (.cells (ivals (List.replicate L.length 0)) 3)):=fun w=>madeI L.length w hL
 go_enter Tryz.func214,Tryz.ntmps214
 go_wp2_with fail
 have hlm:(L.map Ln.mi).length=L.length:=by simp
 have hI0:=makeI_b L.length w;have hB0:Below w.heap.size w (w.alloc (.cells (ivals (List.replicate L.length 0)) 3)):=balloc (Below.refl _ _)
 have hI1:IB (w.alloc (.cells (ivals (List.replicate L.length 0)) 3)) w.heap.size (mixM (L.map Ln.mi) 0):=by rw [mixM_zero,hlm];exact hI0
 have HI0:=hD hI1;have HB0:=hD hB0;have HLM:=hD hlm;clear hmk hI0 hB0 hI1 hlm
 go_loopw [13] (fun i wr=>∃ k:Nat,k≤L.length∧i=.int .i64 k∧IB wr w.heap.size (mixM (L.map Ln.mi) k)∧Below w.heap.size w wr) (fun i _=>L.length - (intOf i).toNat)
 case atStart=>exact ⟨0,by omega,rfl,HI0.out,HB0.out⟩
 case round =>
  obtain ⟨k,hk,rfl,hI,hBr⟩:=hrel;clear HI0 HB0
  by_cases hlt:k<L.length
  ·have hd:decide ((k:Int)<(L.length:Int))=true:=by simpa using hlt
   obtain ⟨b,off,rfl,hb,hp⟩:=(h.keep hBr).cells (by omega);have hget:L[k]?=some L[k]:=List.getElem?_eq_getElem hlt;obtain ⟨c0,c1⟩:=hp k _ hget
   have hgm:(L.map Ln.mi)[k]?=some L[k].mi:=by rw [List.getElem?_map,hget];rfl
   generalize hx:L[k]=x at *;have HI:=hD hI;have HBR:=hD hBr;have HGM:=hD hgm;clear hI hBr hp hget hx hgm
   go_wp2_with fail
   refine (least_v x _).mono ?_;rintro e w1 ⟨rfl,hb1⟩
   have hb01:=(bkeep2 (balloc (Below.refl wr.heap.size wr)) hb1)
   replace HI:=hD (HI.out.keep hb01);replace HBR:=hD (HBR.out.trans (hb01.mono HBR.out.size));clear hb1 hb01 c0 c1;obtain ⟨y,hy⟩:=mixM_get (B:=L.map Ln.mi) (k:=k) (by rw [HLM.out];exact hlt);have d0:=HI.out.cell hy;have f0:=HI.out.frozen k;have hI2:=HI.out.set k x.mi;rw [mixM_set HGM.out] at hI2;have HI2:=hD hI2
   have HB2:=hD (HBR.out.setCell (p:=⟨w.heap.size,k,none⟩) (Nat.le_refl _) (.int .i64 x.mi));clear hI2 hy HI HBR;go_wp2
   go_roundw
   case rel=>exact ⟨k+1,by omega,by go_num,HI2.out,HB2.out⟩
   case measure=>simp [intOf];omega
  ·have hd:decide ((k:Int)<(L.length:Int))=false:=decide_eq_false (by omega)
   obtain rfl:k=L.length:=by omega
   rw [<- HLM.out,mixM_all] at hI;have HI2:=hD hI;have HB2:=hD hBr;clear hI hBr;go_wp2;go_ret;exact ⟨rfl,HI2.out,HB2.out⟩
theorem weight_v (l:Ln) (w:World):Calls Tryz.prog 215 #[.agg #[.int .i64 l.wt,.int .i64 l.mi]] w fun e w'=>e=.returned (.int .i64 l.wt)∧Below w.heap.size w w':=by
 go_enter Tryz.func215,Tryz.ntmps215
 go_wp2;go_ret;exact ⟨rfl,balloc (Below.refl _ _)⟩
theorem each_weight (A:Option Addr) (c:Nat) (L:List Ln) (w:World) (h:LnV w A L) (hL:L.length≤1048576) :
  Calls Tryz.prog 214 #[.slice A L.length c,.func (.func 215) #[] #[]] w fun e w'=>e=.returned (.slice (some ⟨w.heap.size,0,none⟩) L.length L.length)∧IB w' w.heap.size (L.map Ln.wt)∧Below w.heap.size w w':=by
 have hmk:∀ w:World,(Instr.makeSlice 37 (.int .i64 (L.length:Int)) (.int .i64 (L.length:Int))).run Tryz.prog w=.ok (.slice (some ⟨w.heap.size,0,none⟩) L.length L.length) (w.alloc (.cells (ivals (List.replicate L.length 0)) 3)):=fun w=>madeI L.length w hL
 go_enter Tryz.func214,Tryz.ntmps214
 go_wp2_with fail
 have hlm:(L.map Ln.wt).length=L.length:=by simp
 have hI0:=makeI_b L.length w;have hB0:Below w.heap.size w (w.alloc (.cells (ivals (List.replicate L.length 0)) 3)):=balloc (Below.refl _ _)
 have hI1:IB (w.alloc (.cells (ivals (List.replicate L.length 0)) 3)) w.heap.size (mixM (L.map Ln.wt) 0):=by rw [mixM_zero,hlm];exact hI0
 have HI0:=hD hI1;have HB0:=hD hB0;have HLM:=hD hlm;clear hmk hI0 hB0 hI1 hlm
 go_loopw [13] (fun i wr=>∃ k:Nat,k≤L.length∧i=.int .i64 k∧IB wr w.heap.size (mixM (L.map Ln.wt) k)∧Below w.heap.size w wr) (fun i _=>L.length - (intOf i).toNat)
 case atStart=>exact ⟨0,by omega,rfl,HI0.out,HB0.out⟩
 case round =>
  obtain ⟨k,hk,rfl,hI,hBr⟩:=hrel;clear HI0 HB0
  by_cases hlt:k<L.length
  ·have hd:decide ((k:Int)<(L.length:Int))=true:=by simpa using hlt
   obtain ⟨b,off,rfl,hb,hp⟩:=(h.keep hBr).cells (by omega);have hget:L[k]?=some L[k]:=List.getElem?_eq_getElem hlt;obtain ⟨c0,c1⟩:=hp k _ hget
   have hgm:(L.map Ln.wt)[k]?=some L[k].wt:=by rw [List.getElem?_map,hget];rfl
   generalize hx:L[k]=x at *;have HI:=hD hI;have HBR:=hD hBr;have HGM:=hD hgm;clear hI hBr hp hget hx hgm
   go_wp2_with fail
   refine (weight_v x _).mono ?_;rintro e w1 ⟨rfl,hb1⟩
   have hb01:=(bkeep2 (balloc (Below.refl wr.heap.size wr)) hb1)
   replace HI:=hD (HI.out.keep hb01);replace HBR:=hD (HBR.out.trans (hb01.mono HBR.out.size));clear hb1 hb01 c0 c1;obtain ⟨y,hy⟩:=mixM_get (B:=L.map Ln.wt) (k:=k) (by rw [HLM.out];exact hlt);have d0:=HI.out.cell hy;have f0:=HI.out.frozen k;have hI2:=HI.out.set k x.wt;rw [mixM_set HGM.out] at hI2;have HI2:=hD hI2
   have HB2:=hD (HBR.out.setCell (p:=⟨w.heap.size,k,none⟩) (Nat.le_refl _) (.int .i64 x.wt));clear hI2 hy HI HBR;go_wp2
   go_roundw
   case rel=>exact ⟨k+1,by omega,by go_num,HI2.out,HB2.out⟩
   case measure=>simp [intOf];omega
  ·have hd:decide ((k:Int)<(L.length:Int))=false:=decide_eq_false (by omega)
   obtain rfl:k=L.length:=by omega
   rw [<- HLM.out,mixM_all] at hI;have HI2:=hD hI;have HB2:=hD hBr;clear hI hBr;go_wp2;go_ret;exact ⟨rfl,HI2.out,HB2.out⟩
theorem grown_below {w w' w2:World} {g:Nat} (h:w.grownBy w' (some g)) (hb:Below w'.heap.size w' w2):w.grownBy w2 (some g) :=
 ⟨hb.os.trans h.os,hb.tape.trans h.tape,hb.output.trans h.output,Nat.le_trans h.size hb.size,fun k hk hne=>(hb.block k (Nat.lt_of_lt_of_le hk h.size)).trans (h.block k hk hne)⟩
theorem spread_pos {n:Int} {ws:List Int} (hn:0≤n) (h:wsOK ws):∀ y ∈ spreadM n ws,0≤y∧y≤n:=fun y hy=>by
 obtain ⟨k,hk,e⟩:=List.mem_iff_getElem.1 hy;have hl:=spreadM_len (n:=n) (ws:=ws);obtain ⟨y',h1,h2,h3,_⟩:=spread_get hn h (List.getElem?_eq_getElem (show k<ws.length by omega));rw [List.getElem?_eq_getElem hk,e] at h1;obtain rfl:=Option.some.inj h1;exact ⟨h2,h3⟩
theorem enlarge_v (g sa m c:Nat) (B:Option Addr) (c':Nat) (O ws:List Int) (n:Int) (w:World) (hI:IB w g O) (hm:m=ws.length) (hO:sa+m≤O.length) (hOb:∀ x ∈ O,0≤x∧x≤100000000000000) (h:NV w B ws) (hw:wsOK ws) (hn:0≤n) (hn2:n≤100000000000000) :
  Calls Tryz.prog 217 #[.slice (some ⟨g,sa,none⟩) m c,.int .i64 n,.slice B m c'] w fun e w'=>(∃ v,e=.returned v)∧IB w' g (addAt O sa (spreadM n ws))∧w.grownBy w' (some g):=by
 subst hm;have hlm:(spreadM n ws).length=ws.length:=spreadM_len;have HPB:=hD (spread_pos hn hw);have HOB:=hD hOb;have HLM:=hD hlm;have hgl:=hI.lt;have hw5:=hw.2.2;clear hOb hlm
 go_enter Tryz.func217,Tryz.ntmps217
 go_wp2_with fail
 with_reducible refine (spread_v B c' n ws _ h hw hn hn2).mono ?_
 rintro e w1 ⟨rfl,hp,hb1⟩;have HI:=hD (hI.keep hb1);have HP:=hD hp;have HB:=hD hb1
 have hgn:g ≠ w.heap.size:=by omega
 clear hp hb1 hI h
 go_wp2_with fail
 go_loopw [12] (fun i wr=>∃ k:Nat,k≤ws.length∧i=.int .i64 k∧IB wr g (addAt O sa ((spreadM n ws).take k))∧w1.grownBy wr (some g)) (fun i _=>ws.length - (intOf i).toNat)
 case atStart=>exact ⟨0,by omega,rfl,by rw [List.take_zero,addAt_nil];exact HI.out,greflI _ _⟩
 case round =>
  obtain ⟨k,hk,rfl,hIr,hgr⟩:=hrel;clear HI
  by_cases hlt:k<ws.length
  ·have hd:decide ((k:Int)<(ws.length:Int))=true:=by simpa using hlt
   have hkp:k<(spreadM n ws).length:=by have:=HLM.out;omega
   have hgp:(spreadM n ws)[k]?=some (spreadM n ws)[k]:=List.getElem?_eq_getElem hkp;have hpb:=HPB.out _ (List.getElem_mem hkp)
   have hko:sa+k<O.length:=by omega
   have hgo:O[sa+k]?=some O[sa+k]:=List.getElem?_eq_getElem hko;have hob:=HOB.out _ (List.getElem_mem hko);generalize (spreadM n ws)[k]=p at *;generalize O[sa+k]=o at *;have c0:=(HP.out.but hgr (by omega)).cell hgp;have d0:=hIr.cell (addAt_get hgo (P:=(spreadM n ws).take k) (by rw [List.length_take];omega));have f0:=hIr.frozen (sa+k);have hI2:=hIr.set (sa+k) (o+p);rw [addAt_snoc hgo hgp] at hI2
   have HI2:=hD hI2;have HG2:=hD (gsetI hgr (sa+k) (.int .i64 (o+p)));obtain ⟨hp0,hp1⟩:=hpb;obtain ⟨ho0,ho1⟩:=hob;clear hIr hgr hI2 hgp hgo;go_wp2
   go_roundw
   case rel=>exact ⟨k+1,by omega,by go_num,HI2.out,HG2.out⟩
   case measure=>simp [intOf];omega
  ·have hd:decide ((k:Int)<(ws.length:Int))=false:=decide_eq_false (by omega);have hke:(spreadM n ws).take k=spreadM n ws:=List.take_of_length_le (by have:=HLM.out;omega);rw [hke] at hIr;have HI2:=hD hIr;have HG2:=hD hgr;clear hIr hgr hke;go_wp2
   go_end0
   exact ⟨⟨_,rfl⟩,HI2.out,⟨HG2.out.os.trans HB.out.os,HG2.out.tape.trans HB.out.tape,HG2.out.output.trans HB.out.output,Nat.le_trans HB.out.size HG2.out.size,fun k hk hne=>(HG2.out.block k (Nat.lt_of_lt_of_le hk HB.out.size) hne).trans (HB.out.block k hk)⟩⟩
end
section
def segI (O:List Int) (a m:Nat):List Int:=(O.drop a).take m
theorem segI_len {O:List Int} {a m:Nat} (h:a+m≤O.length):(segI O a m).length=m:=by unfold segI;rw [List.length_take,List.length_drop];omega
theorem segI_mem {O:List Int} {a m:Nat} {x:Int} (h:x ∈ segI O a m):x ∈ O:=List.mem_of_mem_drop (List.mem_of_mem_take h)
def stepM (ws O:List Int) (s:Sp):List Int:=addAt O s.sa.toNat (spreadM (mx (s.need - sumI (segI O s.sa.toNat s.many.toNat)) 0) (segI ws s.sa.toNat s.many.toNat))
def roundM (ws:List Int) (m:Int) (S:List Sp) (O:List Int):List Int:=S.foldl (fun O s=>if s.many=m then stepM ws O s else O) O
def reqN (ws:List Int) (S:List Sp) (O:List Int):Nat→List Int
 | 0=>O
 | i+1=>roundM ws ((i:Int)+1) S (reqN ws S O i)
def wishM (L:List Ln) (S:List Sp):List Int:=reqN (L.map Ln.wt) S (L.map Ln.mi) L.length
theorem roundM_snoc {ws:List Int} {m:Int} {S:List Sp} {O:List Int} {j:Nat} {s:Sp} (h:S[j]?=some s):roundM ws m (S.take (j+1)) O=(if s.many=m then stepM ws (roundM ws m (S.take j) O) s else roundM ws m (S.take j) O):=by
 obtain ⟨hj,e⟩:=List.getElem?_eq_some_iff.1 h;unfold roundM;rw [List.take_succ_eq_append_getElem hj,e,List.foldl_append]
 rfl
theorem sum_addP:∀ {O P:List Int},P.length≤O.length→sumI (addP O P)=sumI O+sumI P
 | O,[],_=>by rw [addP_nil];simp [sumI]
 | [],p :: ps,h=>by simp at h
 | o :: os,p :: ps,h=>by
  have:=sum_addP (O:=os) (P:=ps) (by simpa using h)
  simp only [addP,sumI,this];omega
theorem sum_addAt {O P:List Int} {k:Nat} (h:k+P.length≤O.length):sumI (addAt O k P)=sumI O+sumI P:=by
 unfold addAt;rw [sumI_append,sum_addP (by rw [List.length_drop];omega)]
 have:=sumI_append (O.take k) (O.drop k)
 rw [List.take_append_drop] at this;omega
theorem nn_addP:∀ {O P:List Int},(∀ x ∈ O,0≤x)→(∀ x ∈ P,0≤x)→∀ x ∈ addP O P,0≤x
 | [],P,_,_,x,hx=>by simp [addP] at hx
 | o :: os,[],h,_,x,hx=>h x hx
 | o :: os,p :: ps,h,hp,x,hx=>by
  simp only [addP] at hx
  rcases List.mem_cons.1 hx with rfl | hx
  ·have:=h o List.mem_cons_self;have:=hp p List.mem_cons_self;omega
  ·exact nn_addP (fun y hy=>h y (List.mem_cons_of_mem _ hy)) (fun y hy=>hp y (List.mem_cons_of_mem _ hy)) x hx
theorem nn_addAt {O P:List Int} {k:Nat} (h:∀ x ∈ O,0≤x) (hp:∀ x ∈ P,0≤x):∀ x ∈ addAt O k P,0≤x:=fun x hx=>by
 unfold addAt at hx
 rcases List.mem_append.1 hx with hx | hx
 ·exact h x (List.mem_of_mem_take hx)
 ·exact nn_addP (fun y hy=>h y (List.mem_of_mem_drop hy)) hp x hx
theorem spread_nn {n:Int} {ws:List Int} (hn:0≤n) (h:wsOK ws):∀ y ∈ spreadM n ws,0≤y:=fun y hy=>by
 obtain ⟨k,hk,e⟩:=List.mem_iff_getElem.1 hy;have hl:=spreadM_len (n:=n) (ws:=ws);obtain ⟨y',h1,h2,h3,_⟩:=spread_get hn h (List.getElem?_eq_getElem (show k<ws.length by omega));rw [List.getElem?_eq_getElem hk,e] at h1;obtain rfl:=Option.some.inj h1;exact h2
def Bd (n:Nat) (M:Int) (O:List Int):Prop:=O.length=n∧(∀ x ∈ O,0≤x)∧sumI O≤M
theorem seg_ok {ws:List Int} {a m:Nat} (hw:wsOK ws) (h1:1≤m) (h:a+m≤ws.length):wsOK (segI ws a m) :=
 ⟨fun x hx=>hw.1 x (segI_mem hx),by rw [segI_len h];exact h1,by rw [segI_len h];have:=hw.2.2;omega⟩
theorem Bd.each {n:Nat} {M:Int} {O:List Int} (h:Bd n M O) (hM:M≤1000000):∀ x ∈ O,0≤x∧x≤1000000:=fun x hx=>by
 have h1:=h.2.1 x hx;have h2:=mem_le_sum h.2.1 x hx
 have:=h.2.2
 omega
theorem min_bd {L:List Ln} (h:linesB L=true):Bd L.length 150 (L.map Ln.mi)∧wsOK (L.map Ln.wt):=by
 simp only [linesB,Bool.and_eq_true,rng_iff,List.all_eq_true,lineB,wB] at h;obtain ⟨⟨h1,h2⟩,h3⟩:=h
 have hm:∀ x ∈ L.map Ln.mi,0≤x∧x≤30:=fun x hx=>by
  obtain ⟨l,hl,rfl⟩:=List.mem_map.1 hx;exact (h3 l hl).2
 have hs:=sumI_bd hm;rw [List.length_map] at hs;refine ⟨⟨by simp,fun x hx=>(hm x hx).1,by omega⟩,fun x hx=>?_,by simp;omega,by simp;omega⟩;obtain ⟨l,hl,rfl⟩:=List.mem_map.1 hx;exact (h3 l hl).1
def spanW (n:Nat) (s:Sp):Prop:=∃ a m:Nat,s.sa=a∧s.many=m∧1≤m∧a+m≤n∧0≤s.need∧s.need≤1000000000020
def spansW (n:Nat) (S:List Sp):Prop:=S.length≤10∧∀ s ∈ S,spanW n s
theorem step_bdW {n:Nat} {M:Int} {ws O:List Int} {s:Sp} (hw:wsOK ws) (hl:ws.length=n) (hs:spanW n s) (h:Bd n M O):Bd n (M+s.need) (stepM ws O s):=by
 obtain ⟨a,m,e1,e2,h1,h2,h3,h4⟩:=hs;obtain ⟨hO,hnn,hsum⟩:=h;have hseg:=seg_ok hw h1 (by omega:a+m≤ws.length);have hnn2:=sumI_nonneg (fun x hx=>hnn x (segI_mem (a:=a) (m:=m) hx));have mx1:=mx_spec (s.need - sumI (segI O a m)) 0
 have ea:s.sa.toNat=a:=by omega
 have em:s.many.toNat=m:=by omega
 unfold stepM;rw [ea,em]
 have hn0:0≤mx (s.need - sumI (segI O a m)) 0:=by omega
 refine ⟨by rw [addAt_len];exact hO,nn_addAt hnn (spread_nn hn0 hseg),?_⟩;rw [sum_addAt (by rw [spreadM_len,segI_len (by omega)];omega),spread_sum hn0 hseg];omega
def needOf (S:List Sp) (m:Int):Int:=sumI (S.map fun s=>if s.many=m then s.need else 0)
theorem needOf_snoc {S:List Sp} {j:Nat} {s:Sp} {m:Int} (h:S[j]?=some s):needOf (S.take (j+1)) m=needOf (S.take j) m+(if s.many=m then s.need else 0):=by
 obtain ⟨hj,e⟩:=List.getElem?_eq_some_iff.1 h;unfold needOf;rw [List.take_succ_eq_append_getElem hj,e,List.map_append,sumI_append]
 simp [sumI]
theorem round_bdW {n:Nat} {ws:List Int} {S:List Sp} {m:Int} (hw:wsOK ws) (hl:ws.length=n) (hs:∀ s ∈ S,spanW n s):∀ {M:Int} {O:List Int} (j:Nat),j≤S.length→Bd n M O→Bd n (M+needOf (S.take j) m) (roundM ws m (S.take j) O):=by
 intro M O j
 induction j with
 | zero=>intro _ h;simpa [roundM,needOf,sumI] using h
 | succ j ih =>
  intro hj h;have hget:S[j]?=some S[j]:=List.getElem?_eq_getElem (by omega);have h1:=ih (by omega) h;rw [roundM_snoc hget,needOf_snoc hget,<- Int.add_assoc]
  split
  ·exact step_bdW hw hl (hs _ (List.mem_of_getElem? hget)) h1
  ·rw [Int.add_zero];exact h1
def needTo (S:List Sp):Nat→Int
 | 0=>0
 | i+1=>needTo S i+needOf S ((i:Int)+1)
theorem req_bdW {n:Nat} {ws:List Int} {S:List Sp} {M:Int} {O:List Int} (hw:wsOK ws) (hl:ws.length=n) (hs:∀ s ∈ S,spanW n s) (h:Bd n M O):∀ i:Nat,Bd n (M+needTo S i) (reqN ws S O i)
 | 0=>by simpa [reqN,needTo] using h
 | i+1=>by
  have h1:=req_bdW hw hl hs h i;have h2:=round_bdW (m:=(i:Int)+1) hw hl hs S.length (Nat.le_refl _) h1;rw [List.take_length] at h2
  show Bd n (M+(needTo S i+needOf S ((i:Int)+1))) (roundM ws ((i:Int)+1) S (reqN ws S O i))
  rw [<- Int.add_assoc];exact h2
theorem needs_le {S:List Sp} {n:Nat} (hs:∀ s ∈ S,spanW n s):∀ i:Nat,needTo S i+(S.map fun s=>if s.many≤(i:Int) then 0 else s.need).foldr (·+·) 0≤(S.map fun s=>s.need).foldr (·+·) 0:=by
 intro i
 induction i with
 | zero =>
  simp only [needTo,Int.zero_add]
  induction S with
  | nil=>simp
  | cons s t ih =>
   obtain ⟨a,m,e1,e2,h1,h2,h3,h4⟩:=hs s List.mem_cons_self
   have:=ih (fun q hq=>hs q (List.mem_cons_of_mem _ hq))
   simp only [List.map_cons,List.foldr_cons]
   have p:¬ s.many≤((0:Nat):Int):=by omega
   rw [if_neg p];omega
 | succ i ih =>
  have ee:((i+1:Nat):Int)=(i:Int)+1:=by omega
  have e:needOf S ((i:Int)+1)+(S.map fun s=>if s.many≤(i:Int)+1 then 0 else s.need).foldr (·+·) 0=(S.map fun s=>if s.many≤(i:Int) then 0 else s.need).foldr (·+·) 0:=by
   clear ih hs
   induction S with
   | nil=>simp [needOf,sumI]
   | cons s t ih =>
    simp only [needOf,List.map_cons,sumI,List.foldr_cons] at ih ⊢
    by_cases h1:s.many≤(i:Int)
    ·have p1:s.many≤(i:Int)+1:=by omega
     have p2:¬ s.many=(i:Int)+1:=by omega
     rw [if_pos h1,if_pos p1,if_neg p2];omega
    ·by_cases h2:s.many=(i:Int)+1
     ·have p1:s.many≤(i:Int)+1:=by omega
      rw [if_neg h1,if_pos p1,if_pos h2];omega
     ·have p1:¬ s.many≤(i:Int)+1:=by omega
      rw [if_neg h1,if_neg p1,if_neg h2];omega
  rw [ee];simp only [needTo];omega
theorem needTo_bd {S:List Sp} {n:Nat} (hs:∀ s ∈ S,spanW n s) (i:Nat):needTo S i≤(S.map fun s=>s.need).foldr (·+·) 0:=by
 have h:=needs_le hs i
 have:0≤(S.map fun s=>if s.many≤(i:Int) then 0 else s.need).foldr (·+·) 0:=by
  clear h
  induction S with
  | nil=>simp
  | cons s t ih =>
   obtain ⟨a,m,e1,e2,h1,h2,h3,h4⟩:=hs s List.mem_cons_self
   have:=ih (fun q hq=>hs q (List.mem_cons_of_mem _ hq))
   simp only [List.map_cons,List.foldr_cons]
   split <;> omega
 omega
theorem needs_bd {S:List Sp} {n:Nat} {B:Int} (hB:0≤B) (hs:∀ s ∈ S,s.need≤B):(S.map fun s=>s.need).foldr (·+·) 0≤B*S.length:=by
 induction S with
 | nil=>simp
 | cons s t ih =>
  have h1:=hs s List.mem_cons_self;have h2:=ih (fun q hq=>hs q (List.mem_cons_of_mem _ hq));simp only [List.map_cons,List.foldr_cons,List.length_cons]
  have e:B*((t.length+1:Nat):Int)=B*(t.length:Int)+B:=by rw [Int.natCast_add,Int.mul_add];simp
  omega
theorem Bd.eachW {n:Nat} {M:Int} {O:List Int} (h:Bd n M O) (hM:M≤100000000000000):∀ x ∈ O,0≤x∧x≤100000000000000:=fun x hx=>by
 have h1:=h.2.1 x hx;have h2:=mem_le_sum h.2.1 x hx
 have:=h.2.2
 omega
theorem addP_zero:∀ {O P:List Int},(∀ x ∈ P,x=0)→addP O P=O
 | [],P,_=>by simp [addP]
 | o :: os,[],_=>rfl
 | o :: os,p :: ps,h=>by
  have:=h p List.mem_cons_self
  subst this
  simp [addP,addP_zero (fun x hx=>h x (List.mem_cons_of_mem _ hx))]
theorem addAt_zero {O P:List Int} {k:Nat} (h:∀ x ∈ P,x=0):addAt O k P=O:=by
 unfold addAt;rw [addP_zero h,List.take_append_drop]
theorem spread_zero {ws:List Int} (h:wsOK ws):∀ x ∈ spreadM 0 ws,x=0:=fun y hy=>by
 obtain ⟨k,hk,e⟩:=List.mem_iff_getElem.1 hy;have hl:=spreadM_len (n:=0) (ws:=ws);obtain ⟨y',h1,h2,h3,_⟩:=spread_get (Int.le_refl 0) h (List.getElem?_eq_getElem (show k<ws.length by omega));rw [List.getElem?_eq_getElem hk,e] at h1;obtain rfl:=Option.some.inj h1;omega
end
end Go.Proofs.YtenckjdiggaonaaGreat
