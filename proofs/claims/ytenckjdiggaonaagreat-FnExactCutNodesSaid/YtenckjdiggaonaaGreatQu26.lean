import Derived.Test.YtenckjdiggaonaaGreatQu25
set_option linter.unusedVariables false
set_option linter.unusedSimpArgs false
set_option maxRecDepth 100000
set_option maxHeartbeats 16000000
namespace Go.Proofs.YtenckjdiggaonaaGreat
open Go.RowKit
attribute [local go_sem] growUpon_value growUpon_skip growUpon_enter
section
theorem OB.sameL {w w':World} {g cap:Nat} {L:List Int} (h:OB w g cap L) (e:w'.heap[g]?=w.heap[g]?):OB w' g cap L:=by
 obtain ⟨hl,cs,hh,hs,hc⟩:=h;exact ⟨hl,cs,e.trans hh,hs,hc⟩
theorem OB.nr {w:World} {g cap n:Nat} {L:List Int} (h:OB w g cap L) (hn:n=L.length) (m:Nat):NR w (.slice (some ⟨g,0,none⟩) n m) L:=⟨_,m,by rw [hn],h.nv⟩
def MKo (k:Int) (n:Nat):List Int:=(List.range n).map (fun i:Nat=>(i:Int)+k)
theorem MKo_len (k:Int) (n:Nat):(MKo k n).length=n:=by simp [MKo]
theorem MKo_get {k:Int} {n i:Nat} (h:i<n):(MKo k n)[i]?=some ((i:Int)+k):=by simp [MKo,h]
theorem drop_consO {L:List Int} {k:Nat} {x:Int} (h:L[k]?=some x):L.drop k=x :: L.drop (k+1):=by
 obtain ⟨hk,e⟩:=List.getElem?_eq_some_iff.1 h;rw [List.drop_eq_getElem_cons hk,e]
theorem set_hereO {A B:List Int} {n:Nat} {y x:Int} (h:A.length=n):(A ++ y :: B).set n x=A ++ x :: B:=by
 subst h;simp
theorem markO (g cap n:Nat) (k:Int) (M:List Int) (w:World) (h:OB w g cap M) (hn:n=M.length) (hL:n≤1048576) (hk0:0≤k) (hk1:k≤10000000) :
  Calls Tryz.prog 24 #[.slice (some ⟨g,0,none⟩) n cap,.int .i64 k] w fun e w'=>e=.returned (.int .i64 (k+(n:Int)))∧OB w' g cap (MKo k n)∧w.grownBy w' (some g):=by
 subst hn;have HI:=hD h;clear h
 go_enter Tryz.func24,Tryz.ntmps24
 go_wp2_with fail
 go_loopw [1,5] (fun kv i wr=>∃ j:Nat,j≤M.length∧i=.int .i64 j∧kv=.int .i64 (k+(j:Int))∧OB wr g cap ((MKo k M.length).take j ++ M.drop j)∧w.grownBy wr (some g)) (fun _ i _=>M.length - (intOf i).toNat)
 case atStart=>exact ⟨0,by omega,rfl,by simp,by simpa using HI.out,greflI _ _⟩
 case round =>
  obtain ⟨j,hj,rfl,rfl,hI,hgr⟩:=hrel;clear HI
  by_cases hlt:j<M.length
  ·have hd:decide ((j:Int)<(M.length:Int))=true:=by simpa using hlt
   have hget:M[j]?=some M[j]:=List.getElem?_eq_getElem hlt;have hdr:=drop_consO hget;rw [hdr] at hI
   have hlk:((MKo k M.length).take j).length=j:=by rw [List.length_take,MKo_len];omega
   have d0:=hI.cell (i:=j) (x:=M[j]) (by rw [List.getElem?_append_right (by omega),hlk,Nat.sub_self];rfl);have f0:=hI.frozen j;have hI2:=hI.set j (k+(j:Int)) (by rw [List.length_append,hlk,List.length_cons];omega);rw [set_hereO hlk] at hI2
   have e3:(MKo k M.length).take j ++ (k+(j:Int)) :: M.drop (j+1)=(MKo k M.length).take (j+1) ++ M.drop (j+1):=by
    have h1:=MKo_get (k:=k) hlt;obtain ⟨h2,h3⟩:=List.getElem?_eq_some_iff.1 h1;rw [List.take_succ_eq_append_getElem h2,h3];simp [Int.add_comm]
   rw [e3] at hI2;have HI2:=hD hI2;have HG2:=hD (gsetI hgr j (.int .i64 (k+(j:Int))));generalize M[j]=x at *;clear hI hI2 hgr hget hdr hlk e3;go_wp2
   go_roundw
   case rel=>exact ⟨j+1,by omega,by go_num,by go_num,HI2.out,HG2.out⟩
   case measure=>simp [intOf];omega
  ·have hd:decide ((j:Int)<(M.length:Int))=false:=by simp;omega
   obtain rfl:j=M.length:=by omega
   have e1:(MKo k M.length).take M.length=MKo k M.length:=List.take_of_length_le (by rw [MKo_len];omega);rw [e1,List.drop_length,List.append_nil] at hI;have HI2:=hD hI;have HG2:=hD hgr;clear hI hgr e1;go_wp2;go_ret;exact ⟨rfl,HI2.out,HG2.out⟩
theorem markO_nil (k:Int) (w:World):Calls Tryz.prog 24 #[.slice none 0 0,.int .i64 k] w fun e w'=>e=.returned (.int .i64 k)∧w'=w:=by
 go_enter Tryz.func24,Tryz.ntmps24
 go_wp2_with fail
 go_loop [1,5] (fun kv i=>kv=.int .i64 k∧i=.int .i64 0) (fun _ _=>0)
 case atStart=>exact ⟨rfl,rfl⟩
 case round =>
  obtain ⟨rfl,rfl⟩:=hrel;go_wp2;go_ret;exact ⟨rfl,rfl⟩
theorem heldO (g cap n:Nat) (k:Int) (w:World) (h:OB w g cap (MKo k n)) (hL:n≤1048576) (hk0:0≤k) (hk1:k≤10000000) :
  Calls Tryz.prog 25 #[.slice (some ⟨g,0,none⟩) n cap,.int .i64 k] w fun e w'=>e=.returned (.int .i64 (k+(n:Int)))∧w'=w:=by
 go_enter Tryz.func25,Tryz.ntmps25
 go_wp2_with fail
 go_loop [1,5] (fun kv i=>∃ j:Nat,j≤n∧i=.int .i64 j∧kv=.int .i64 (k+(j:Int))) (fun _ i=>n - (intOf i).toNat)
 case atStart=>exact ⟨0,by omega,rfl,by simp⟩
 case round =>
  obtain ⟨j,hj,rfl,rfl⟩:=hrel
  by_cases hlt:j<n
  ·have hd:decide ((j:Int)<(n:Int))=true:=by simpa using hlt
   have d0:=h.cell (MKo_get hlt);rw [Int.add_comm] at d0;go_wp2
   go_round
   case rel=>exact ⟨j+1,by omega,by go_num,by go_num⟩
   case measure=>simp [intOf];omega
  ·have hd:decide ((j:Int)<(n:Int))=false:=by simp;omega
   obtain rfl:j=n:=by omega
   go_wp2;go_ret;exact ⟨rfl,rfl⟩
theorem heldO_nil (k:Int) (w:World):Calls Tryz.prog 25 #[.slice none 0 0,.int .i64 k] w fun e w'=>e=.returned (.int .i64 k)∧w'=w:=by
 go_enter Tryz.func25,Tryz.ntmps25
 go_wp2_with fail
 go_loop [1,5] (fun kv i=>kv=.int .i64 k∧i=.int .i64 0) (fun _ _=>0)
 case atStart=>exact ⟨rfl,rfl⟩
 case round =>
  obtain ⟨rfl,rfl⟩:=hrel;go_wp2;go_ret;exact ⟨rfl,rfl⟩
end
section
structure TM (g hi:Nat) (S:List Nr) (w:World):Prop where
 s:NodS w g S
 l:LnsS w g hi 0 S
 a:ApS S
 lt:g<hi
theorem TM.of {g:Nat} {w:World} {R S:List Nr} (h:NrB w g S) (hc:CpR (g+1) w R S):TM g w.heap.size S w:=⟨NodS.of h,LnsS.of hc (Nat.le_refl _),hc.apart,h.lt⟩
theorem TM.keep {g hi:Nat} {S:List Nr} {w w':World} (h:TM g hi S w) (hb:Below w.heap.size w w'):TM g hi S w' :=
 ⟨h.s.keep (hb.block g h.s.lt),fun i q hk hq=>by
  obtain ⟨g1,g2,e1,e2,e3,e4,l1,l2,l3,b1,b2⟩:=h.l i q hk hq
  exact ⟨g1,g2,e1,e2,e3,e4,l1,l2,l3,b1.keep hb,b2.keep hb⟩,h.a,h.lt⟩
theorem Wi.pre {lo hi:Nat} {w w':World} {o:Obj} (h:Wi lo hi (w.alloc o) w'):Wi lo hi w w' :=
 ⟨h.os.trans rfl,h.tape.trans rfl,h.output.trans rfl,by have:=h.size;rw [World.size_alloc] at this;omega,fun k hk hn=>(h.block k (by rw [World.size_alloc];omega) hn).trans (Below.heap_alloc _ _ _ hk)⟩
theorem markTree_v (g hi k c:Nat) (S:List Nr) (w:World) (hk:k=S.length) (h:TM g hi S w) (hL:S.length≤1048576) (hz:S.length+szL S≤1048576) :
  Calls Tryz.prog 18 #[.agg #[.slice (some ⟨g,0,none⟩) k c],.int .i64 1] w fun e w'=>e=.returned (.int .i64 (1+mkS S))∧Wi g hi w w':=by
 subst hk;have HM:=hD (h.keep (balloc (o:=.cells #[.slice (some ⟨g,0,none⟩) S.length c] 30 (0,0)) (Below.refl w.heap.size w)));have hx:=newS w (.cells #[.slice (some ⟨g,0,none⟩) S.length c] 30 (0,0));have x0:=cellS hx 0;clear h hx
 go_enter Tryz.func18,Tryz.ntmps18
 go_wp2_with fail
 with_reducible refine (markNodeS_v g hi _ c S 1 _ rfl HM.out.s HM.out.l HM.out.a HM.out.lt hL hz (by omega) (by omega)).mono ?_
 rintro e w1 ⟨rfl,hw⟩;have HW:=hD hw.pre;clear hw x0;go_wp2;go_ret;exact ⟨rfl,HW.out⟩
def GO (lo:Nat) (w:World) (v:Value) (M:List Int):Prop:=(v=.slice none 0 0∧M=[]) ∨ ∃ g cap n,v=.slice (some ⟨g,0,none⟩) n cap∧n=M.length∧lo≤g∧OB w g cap M
theorem GO.of {lo n:Nat} {w:World} {v:Value} {M:List Int} (h:w.ownsRow lo 3 1 v n (nvalsW M)) (hn:n=M.length):GO lo w v M :=
 (own_inW h hn).imp id fun ⟨g,cap,h1,h2,h3⟩=>⟨g,cap,n,h1,hn,h2,h3⟩
theorem GO.nr {lo:Nat} {w:World} {v:Value} {L:List Int} (h:GO lo w v L):NR w v L:=by
 rcases h with ⟨rfl,rfl⟩ | ⟨g,cap,n,rfl,hn,_,hk⟩
 ·exact ⟨none,0,rfl,NV.nil _ _⟩
 ·exact hk.nr hn cap
theorem GO.keep {lo:Nat} {w w':World} {v:Value} {L:List Int} (h:GO lo w v L) (hb:Below w.heap.size w w'):GO lo w' v L:=h.imp id fun ⟨g,cap,n,h1,h2,h3,hk⟩=>⟨g,cap,n,h1,h2,h3,hk.keep hb⟩
theorem GO.wi {lo a b:Nat} {w w':World} {v:Value} {L:List Int} (h:GO lo w v L) (hw:Wi a b w w') (hl:b≤lo):GO lo w' v L:=h.imp id fun ⟨g,cap,n,h1,h2,h3,hk⟩=>⟨g,cap,n,h1,h2,h3,hk.sameL (hw.block g hk.lt (by omega))⟩
theorem GO.mono {lo lo':Nat} {w:World} {v:Value} {L:List Int} (h:GO lo w v L) (hl:lo'≤lo):GO lo' w v L:=h.imp id fun ⟨g,cap,n,h1,h2,h3,hk⟩=>⟨g,cap,n,h1,h2,Nat.le_trans hl h3,hk⟩
def GOM (w:World) (v:Value) (n:Nat):Prop:=(v=.slice none 0 0∧n=0) ∨ ∃ g cap,v=.slice (some ⟨g,0,none⟩) n cap∧OB w g cap (MKo 1 n)
theorem GOM.keep {w w':World} {v:Value} {n:Nat} (h:GOM w v n) (hb:Below w.heap.size w w'):GOM w' v n:=h.imp id fun ⟨g,cap,h1,hk⟩=>⟨g,cap,h1,hk.keep hb⟩
theorem markGO (lo:Nat) (w:World) (v:Value) (M:List Int) (h:GO lo w v M) (hM:M.length≤1048576) (hlo:lo≤w.heap.size) :
  Calls Tryz.prog 24 #[v,.int .i64 1] w fun e w'=>e=.returned (.int .i64 (1+(M.length:Int)))∧GOM w' v M.length∧Below lo w w':=by
 rcases h with ⟨rfl,rfl⟩ | ⟨g,cap,n,rfl,rfl,hlg,hk⟩
 ·refine (markO_nil 1 w).mono ?_;rintro e w' ⟨rfl,rfl⟩;exact ⟨rfl,.inl ⟨rfl,rfl⟩,Below.refl _ _⟩
 ·refine (markO g cap M.length 1 M w hk rfl hM (by omega) (by omega)).mono ?_;rintro e w' ⟨rfl,hk',hg⟩;exact ⟨rfl,.inr ⟨g,cap,rfl,hk'⟩,below_grownI hg (fun q e=>by cases e;exact hlg) hlo⟩
theorem heldGO (w:World) (v:Value) (n:Nat) (h:GOM w v n) (hn:n≤1048576) :
  Calls Tryz.prog 25 #[v,.int .i64 1] w fun e w'=>e=.returned (.int .i64 (1+(n:Int)))∧w'=w:=by
 rcases h with ⟨rfl,rfl⟩ | ⟨g,cap,rfl,hk⟩
 ·exact heldO_nil 1 w
 ·exact heldO g cap n 1 w hk hn (by omega) (by omega)
end
section
theorem indicesF_v (n:Nat) (f:Nat→Bool) (caps:Array Value) (w:World) (hn:n≤1048576)
  (hf:∀ k,k<n→∀ W,Below w.heap.size w W→Calls Tryz.prog 106 (#[.int .i64 (k:Int)] ++ caps) W fun e W'=>e=.returned (.bool (f k))∧Below W.heap.size W W') :
  Calls Tryz.prog 65 #[.int .i64 (n:Int),.func (.func 106) #[] caps] w fun e w'=>(∃ v,e=.returned v∧GO w.heap.size w' v (idsM f n))∧Below w.heap.size w w':=by
 obtain ⟨ti,tz,ti1,ti2,ti3,ti4,ti5⟩:=int_infoW;have HF:=hD hf;clear hf;refine calls_abs Tryz.func65 rfl 20 (by simp only [Tryz.ntmps65]) (by simp) (fun t hsz hargs=>?_);have q0:t[0]?=some (.int .i64 (n:Int)):=get_of (by omega) (hargs 0 _ rfl);have q1:t[1]?=some (.func (.func 106) #[] caps):=get_of (by omega) (hargs 1 _ rfl);clear hargs;obtain ⟨l0,e0⟩:=gE q0;obtain ⟨l1,e1⟩:=gE q1
 refine wp_seq_h fun K hK=>?_
 apply wp_region_lit
 repeat (first | go_step)
 refine hK.out _ _ ?_;clear hK K;refine wp_abw (fun t' W'=>t'.size=20∧t'[0]?=some (.int .i64 (n:Int))∧t'[1]?=some (.func (.func 106) #[] caps)∧w=W') ⟨by simp [Act.put,hsz],by simp [Act.put,q0],by simp [Act.put,q1],rfl⟩ ?_;clear hsz q0 l0 e0 q1 l1 e1 t;rintro t _ ⟨hsz,q0,q1,rfl⟩;obtain ⟨l0,e0⟩:=gE q0;obtain ⟨l1,e1⟩:=gE q1
 refine wp_seq_h fun K hK=>?_
 apply wp_region_lit
 repeat (first | go_step)
 refine hK.out _ _ ?_;clear hK K;refine wp_abw (fun t' W'=>t'.size=20∧t'[0]?=some (.int .i64 (n:Int))∧t'[1]?=some (.func (.func 106) #[] caps)∧t'[5]?=some (.slice none 0 0)∧w=W') ⟨by simp [Act.put,hsz],by simp [Act.put,q0],by simp [Act.put,q1],by simp [Act.put,hsz],rfl⟩ ?_;clear hsz q0 l0 e0 q1 l1 e1 t;rintro t _ ⟨hsz,q0,q1,q5,rfl⟩
 refine wp_seq_h fun KE hKE=>?_
 obtain ⟨l0,e0⟩:=gE q0;obtain ⟨l1,e1⟩:=gE q1;obtain ⟨l5,e5⟩:=gE q5
 refine wp_seq_h fun K hK=>?_
 apply wp_region_lit
 repeat (first | go_step)
 refine hK.out _ _ ?_;clear hK K;refine wp_abw (fun t' W'=>t'.size=20∧t'[1]?=some (.func (.func 106) #[] caps)∧t'[5]?=some (.slice none 0 0)∧t'[7]?=some (.int .i64 (n:Int))∧t'[8]?=some (.int .i64 ((0:Nat):Int))∧w=W') ⟨by simp [Act.put,hsz],by simp [Act.put,q1],by simp [Act.put,q5],by simp [Act.put,hsz],by simp [Act.put,hsz],rfl⟩ ?_;clear hsz q0 l0 e0 q1 l1 e1 q5 l5 e5 t
 rintro t _ ⟨hsz,q1,q5,q7,q8,rfl⟩;apply wp_block
 refine wp_loop (fun a W=>∃ (t:Array Value) (k:Nat) (v:Value),a=⟨t,[]⟩∧k≤n∧t.size=20∧t[1]?=some (.func (.func 106) #[] caps)∧t[5]?=some (v)∧t[7]?=some (.int .i64 (n:Int))∧t[8]?=some (.int .i64 (k:Int))∧W.ownsRow w.heap.size 3 1 v (idsM f k).length (nvalsW (idsM f k))∧Below w.heap.size w W) (fun a _=>n - (intOf (a.tmps.getD 8 undef)).toNat) ⟨t,0,.slice none 0 0,rfl,by omega,hsz,q1,q5,q7,q8,⟨rfl,.inl ⟨rfl,rfl⟩⟩,Below.refl _ _⟩ ?_
 clear t hsz q1 q5 q7 q8;rintro a W ⟨t,k,v,rfl,hk,hsz,q1,q5,q7,q8,hO,hB⟩
 have hmu:intOf (t.getD 8 undef)=(k:Int):=by rw [Array.getD_eq_getD_getElem?,q8];rfl
 dsimp only
 rw [hmu];clear hmu;have HO:=hD hO;have HB:=hD hB;clear hO hB
 by_cases hlt:k<n
 ·have hd:decide ((k:Int)<(n:Int))=true:=by simpa using hlt
  obtain ⟨l1,e1⟩:=gE q1;obtain ⟨l5,e5⟩:=gE q5;obtain ⟨l7,e7⟩:=gE q7;obtain ⟨l8,e8⟩:=gE q8
  refine wp_seq_h fun K hK=>?_
  apply wp_region_lit
  repeat (first | go_step)
  refine hK.out _ _ ?_;clear hK K;refine wp_abw (fun t' W'=>t'.size=20∧t'[1]?=some (.func (.func 106) #[] caps)∧t'[5]?=some (v)∧t'[7]?=some (.int .i64 (n:Int))∧t'[8]?=some (.int .i64 (k:Int))∧t'[9]?=some (.bool true)∧W=W') ⟨by simp [Act.put,hsz],by simp [Act.put,q1],by simp [Act.put,q5],by simp [Act.put,q7],by simp [Act.put,q8],by simp [Act.put,hsz,hd],rfl⟩ ?_
  clear hsz q1 l1 e1 q5 l5 e5 q7 l7 e7 q8 l8 e8 t;rintro t _ ⟨hsz,q1,q5,q7,q8,q9,rfl⟩;clear hd
  refine wp_seq_h fun K1 hK1=>?_
  refine wp_cond_true (by simp [Act.eval,q9]) ?_;apply wp_skip;simp only [Exit.then];refine hK1.out _ _ ?_;clear hK1 K1 q9
  refine wp_seq_h fun KB hKB=>?_
  apply wp_block;obtain ⟨l1,e1⟩:=gE q1;obtain ⟨l5,e5⟩:=gE q5;obtain ⟨l7,e7⟩:=gE q7;obtain ⟨l8,e8⟩:=gE q8
  refine wp_seq_h fun K hK=>?_
  apply wp_region_lit
  repeat (first | go_step)
  refine hK.out _ _ ?_;clear hK K;refine wp_abw (fun t' W'=>t'.size=20∧t'[1]?=some (.func (.func 106) #[] caps)∧t'[5]?=some (v)∧t'[6]?=some (.int .i64 (k:Int))∧t'[7]?=some (.int .i64 (n:Int))∧t'[8]?=some (.int .i64 (k:Int))∧W=W') ⟨by simp [Act.put,hsz],by simp [Act.put,q1],by simp [Act.put,q5],by simp [Act.put,hsz],by simp [Act.put,q7],by simp [Act.put,q8],rfl⟩ ?_
  clear hsz q1 l1 e1 q5 l5 e5 q7 l7 e7 q8 l8 e8 t;rintro t _ ⟨hsz,q1,q5,q6,q7,q8,rfl⟩;obtain ⟨l1,e1⟩:=gE q1;obtain ⟨l5,e5⟩:=gE q5;obtain ⟨l6,e6⟩:=gE q6;obtain ⟨l7,e7⟩:=gE q7;obtain ⟨l8,e8⟩:=gE q8;have hlen:=idsM_len f k
  refine wp_seq_h fun K hK=>?_
  apply wp_region_lit
  repeat go_step
  refine (HF.out k hlt _ HB.out).mono ?_;rintro e W1 ⟨rfl,hb1⟩
  dsimp only
  repeat go_step
  refine hK.out _ _ ?_;clear hK K;have hob:=HO.out.lt;replace HO:=hD (own_bw HO.out hb1);replace HB:=hD (bkeep2 HB.out hb1);have hs1:=hb1.size;clear hb1
  refine wp_abw (fun t' W'=>t'.size=20∧t'[1]?=some (.func (.func 106) #[] caps)∧t'[5]?=some (v)∧t'[6]?=some (.int .i64 (k:Int))∧t'[7]?=some (.int .i64 (n:Int))∧t'[8]?=some (.int .i64 (k:Int))∧t'[13]?=some (.bool (f k))∧W1=W') ⟨by simp [Act.put,hsz],by simp [Act.put,q1],by simp [Act.put,q5],by simp [Act.put,q6],by simp [Act.put,q7],by simp [Act.put,q8],by simp [Act.put,hsz],rfl⟩ ?_
  clear hsz q1 l1 e1 q5 l5 e5 q6 l6 e6 q7 l7 e7 q8 l8 e8 t;rintro t _ ⟨hsz,q1,q5,q6,q7,q8,q13,rfl⟩;obtain ⟨l1,e1⟩:=gE q1
  by_cases hfk:f k=true
  ·have hids:=idsM_yes hfk;rw [hfk] at q13;refine wp_cond_true (by simp [Act.eval,q13]) ?_;clear l1 e1 q13;obtain ⟨l1,e1⟩:=gE q1;obtain ⟨l5,e5⟩:=gE q5;obtain ⟨l6,e6⟩:=gE q6;obtain ⟨l7,e7⟩:=gE q7;obtain ⟨l8,e8⟩:=gE q8;have hob:∀ b,v.ownBlock=some b→w.heap.size≤b∧b<W1.heap.size:=HO.out.lt;have hw1:w.heap.size≤W1.heap.size:=HB.out.size;apply wp_region_lit
   repeat (first | ((with_reducible show wpList _ _ _ _ _ _);refine wpList_append_own _ rfl _ _ 37 rfl w.heap.size 3 ti tz 1 8 Tryz.underlying37 ti1 ti2 ti3 ti4 ti5 (by decide) v _ _ (by simp [Act.eval,Act.put,hsz,e5]) (HO.out.alloc _) ⟨W1.heap.size,0,none⟩ 1 1 [.int .i64 (k:Int)] (by simp [Act.eval,Act.put,hsz]) rfl (newW _ _ _) (by simp [Value.oneCell']) (by simp only [maxLen];omega) (by omega) (by simp;omega) ?_) | go_step)
   intro v5 w5 how5 hgr5 _;have hb5:=below_own HB.out hgr5 hob (Nat.le_refl _) (Nat.le_refl _);rw [nvalsW_snoc,<- hids] at how5
   have hlen5:(idsM f k).length+1=(idsM f (k+1)).length:=by rw [hids];simp
   rw [hlen5] at how5;clear hlen5 hids
   repeat go_step
   try simp only [Exit.inBlock]
   refine hKB.out _ _ ?_;clear hKB KB;refine wp_abw (fun t' W'=>t'.size=20∧t'[1]?=some (.func (.func 106) #[] caps)∧t'[5]?=some (v5)∧t'[7]?=some (.int .i64 (n:Int))∧t'[8]?=some (.int .i64 (k:Int))∧w5=W') ⟨by simp [Act.put,hsz],by simp [Act.put,q1],by simp [Act.put,hsz],by simp [Act.put,q7],by simp [Act.put,q8],rfl⟩ ?_;clear hsz q1 l1 e1 q5 l5 e5 q6 l6 e6 q7 l7 e7 q8 l8 e8 t hob hw1
   rintro t _ ⟨hsz,q1,q5,q7,q8,rfl⟩;obtain ⟨l1,e1⟩:=gE q1;obtain ⟨l5,e5⟩:=gE q5;obtain ⟨l7,e7⟩:=gE q7;obtain ⟨l8,e8⟩:=gE q8;apply wp_region_lit
   repeat go_step
   try simp only [Exit.then]
   refine ⟨⟨_,k+1,v5,rfl,by omega,by simp [hsz],by simp [q1],by simp [q5],by simp [q7],by simp [hsz],how5,hb5⟩,?_⟩
   ·simp [hsz,intOf]
    omega
  ·have hfk':f k=false:=by simpa using hfk
   have hids:=idsM_no hfk';rw [hfk'] at q13;refine wp_cond_false (by simp [Act.eval,q13]) ?_;clear l1 e1 q13;apply wp_skip
   try simp only [Exit.inBlock]
   refine hKB.out _ _ ?_;clear hKB KB;obtain ⟨l1,e1⟩:=gE q1;obtain ⟨l5,e5⟩:=gE q5;obtain ⟨l6,e6⟩:=gE q6;obtain ⟨l7,e7⟩:=gE q7;obtain ⟨l8,e8⟩:=gE q8;apply wp_region_lit
   repeat go_step
   try simp only [Exit.then]
   refine ⟨⟨_,k+1,v,rfl,by omega,by simp [hsz],by simp [q1],by simp [q5],by simp [q7],by simp [hsz],by rw [hids];exact HO.out,HB.out⟩,?_⟩
   ·simp [hsz,intOf]
    omega
 ·have hd:decide ((k:Int)<(n:Int))=false:=decide_eq_false (by omega);obtain ⟨l1,e1⟩:=gE q1;obtain ⟨l5,e5⟩:=gE q5;obtain ⟨l7,e7⟩:=gE q7;obtain ⟨l8,e8⟩:=gE q8
  refine wp_seq_h fun K hK=>?_
  apply wp_region_lit
  repeat (first | go_step)
  refine hK.out _ _ ?_;clear hK K;refine wp_abw (fun t' W'=>t'.size=20∧t'[1]?=some (.func (.func 106) #[] caps)∧t'[5]?=some (v)∧t'[7]?=some (.int .i64 (n:Int))∧t'[8]?=some (.int .i64 (k:Int))∧t'[9]?=some (.bool false)∧W=W') ⟨by simp [Act.put,hsz],by simp [Act.put,q1],by simp [Act.put,q5],by simp [Act.put,q7],by simp [Act.put,q8],by simp [Act.put,hsz,hd],rfl⟩ ?_
  clear hsz q1 l1 e1 q5 l5 e5 q7 l7 e7 q8 l8 e8 t;rintro t _ ⟨hsz,q1,q5,q7,q8,q9,rfl⟩
  refine wp_seq_h fun K1 hK1=>?_
  refine wp_cond_false (by simp [Act.eval,q9]) ?_;apply wp_exit;simp only [Exit.then,Exit.inBlock,if_true];refine hKE.out _ _ ?_;clear hd
  obtain rfl:k=n:=by omega
  obtain ⟨l1,e1⟩:=gE q1;obtain ⟨l5,e5⟩:=gE q5;obtain ⟨l7,e7⟩:=gE q7;obtain ⟨l8,e8⟩:=gE q8;obtain ⟨l9,e9⟩:=gE q9
  repeat go_step
  refine bodyPost_ret (results_tmp rfl _ _ _) rfl ?_;exact ⟨⟨v,by simp [hsz],GO.of HO.out rfl⟩,HB.out⟩
theorem kidsOf_f (A:Option Addr) (c:Nat) (R:List Nr) (i:Int) (w:World) (h:NrV w A R) (hL:R.length≤1048576) :
  Calls Tryz.prog 74 #[.agg #[.slice A R.length c],.int .i64 i] w fun e w'=>(∃ v,e=.returned v∧GO w.heap.size w' v (kidsM R i))∧Below w.heap.size w w':=by
 have hB0:Below w.heap.size w ((w.alloc (.cells #[.slice A R.length c] 30 (0,0))).alloc (.cells #[.int .i64 i] 3 (0,0))):=(balloc (Below.refl _ _)).trans ((balloc (Below.refl _ _)).mono (by simp))
 have H1:=hD (show ((w.alloc (.cells #[.slice A R.length c] 30 (0,0))).alloc (.cells #[.int .i64 i] 3 (0,0))).heap[w.heap.size]?=some (.cells #[.slice A R.length c] 30 (0,0)) from (Below.heap_alloc _ _ _ (by simp)).trans (newS _ _))
 have H2:=hD (show ((w.alloc (.cells #[.slice A R.length c] 30 (0,0))).alloc (.cells #[.int .i64 i] 3 (0,0))).heap[w.heap.size+1]?=some (.cells #[.int .i64 i] 3 (0,0)) from by have:=newS (w.alloc (.cells #[.slice A R.length c] 30 (0,0))) (.cells #[.int .i64 i] 3 (0,0));simpa using this);have HV:=hD (h.keep hB0);have HB:=hD hB0;clear hB0 h
 go_enter Tryz.func74,Tryz.ntmps74
 go_wp2_with fail
 refine (indicesF_v R.length (isKid R i) #[.pointer (some ⟨w.heap.size,0,none⟩),.pointer (some ⟨w.heap.size+1,0,none⟩)] _ hL (fun k hk W hW=>kid1_v A c R i k _ _ W (HV.out.keep hW) hk ((cellS ((hW.block _ (ltS H1.out)).trans H1.out) 0)) ((cellS ((hW.block _ (ltS H2.out)).trans H2.out) 0)) (Nat.lt_of_lt_of_le (ltS H1.out) hW.size) (Nat.lt_of_lt_of_le (ltS H2.out) hW.size) hL)).mono ?_
 rintro e w1 ⟨⟨v,rfl,hv⟩,hb1⟩;have HK:Hid (GO w.heap.size w1 v (kidsM R i)):=hD (hv.mono (by simp <;> omega));replace HB:=hD (bkeep2 HB.out hb1);clear hv hb1 H1 H2 HV;go_wp2;go_ret;exact ⟨⟨v,rfl,HK.out⟩,HB.out⟩
end
end Go.Proofs.YtenckjdiggaonaaGreat
