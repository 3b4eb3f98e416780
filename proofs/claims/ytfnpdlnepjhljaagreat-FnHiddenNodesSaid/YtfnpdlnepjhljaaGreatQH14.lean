import Derived.Test.YtfnpdlnepjhljaaGreatQH13
import Derived.WalkSpells
import Derived.Laws.Cover3
import Derived.Laws.AppendOwnNone
set_option linter.unusedVariables false
set_option linter.unusedSimpArgs false
set_option maxRecDepth 100000
set_option maxHeartbeats 16000000
namespace Go.Proofs.YtfnpdlnepjhljaaGreat
open Go.RowKit
attribute [local go_sem] kZb kZp kZg
section
theorem gZ7 (n:Nat) (f:Nat→Bool) (caps:Array Value) (w:World) (hn:n≤1048576)
  (hf:∀ k,k<n→∀ W,Below w.heap.size w W→Calls Tryz.prog 82 (#[.int .i64 (k:Int)] ++ caps) W fun e W'=>e=.returned (.bool (f k))∧Below W.heap.size W W') :
  Calls Tryz.prog 81 #[.int .i64 (n:Int),.func (.func 82) #[] caps] w fun e w'=>(∃ v,e=.returned v∧GO w.heap.size w' v (idsM f n))∧Below w.heap.size w w' :=
 (cZ0 82 (enters_of Tryz.func82 (by kernel_rfl) rfl) n f caps w hn hf).mono fun e w' ⟨⟨v,h1,h2⟩,h3⟩=>⟨⟨v,h1,GO.of h2 rfl⟩,h3⟩
theorem IsUp.uniq {L:List Nd}:∀ {xs ys:List Int} {p:Int},IsUp L p xs→IsUp L p ys→xs=ys
 | [],[],_,_,_=>rfl
 | [],y :: ys,p,h,k=>by obtain ⟨_,h0,_⟩:=k;have:p=-1:=h;omega
 | x :: xs,[],p,h,k=>by obtain ⟨_,h0,_⟩:=h;have:p=-1:=k;omega
 | x :: xs,y :: ys,p,h,k=>by
  obtain ⟨rfl,h0,n,hn,_,_,h1⟩:=h;obtain ⟨rfl,k0,m,hm,_,_,k1⟩:=k;rw [hn] at hm;obtain rfl:=Option.some.inj hm;rw [h1.uniq k1]
theorem up_idx {L:List Nd} (N:Nat) (hN:L.length=N):∀ {xs:List Int} {p:Int},IsUp L p xs→∃ ys:List {k:Nat // k<N},xs=ys.map upC
 | [],_,_=>⟨[],rfl⟩
 | x :: xs,p,h=>by
  obtain ⟨rfl,h0,n,hn,_,_,h1⟩:=h;obtain ⟨ys,rfl⟩:=up_idx N hN h1;have hl:=(List.getElem?_eq_some_iff.1 hn).1;exact ⟨⟨x.toNat,by omega⟩ :: ys,by simp [upC];omega⟩
open Classical in
noncomputable def seM (L:List Nd) (M:List Re) (i:Nat):Option Re:=if h:∃ ks:List Nat,IsUp L (i:Int) (ks.map fun (k:Nat)=>(k:Int)) then seL M (rcN M i) h.choose else none
theorem seM_eq {L:List Nd} {M:List Re} {i:Nat} {ks:List Nat} (h:IsUp L (i:Int) (ks.map fun (k:Nat)=>(k:Int))):seM L M i=seL M (rcN M i) ks:=by
 have he:∃ ks:List Nat,IsUp L (i:Int) (ks.map fun (k:Nat)=>(k:Int)):=⟨ks,h⟩
 unfold seM;rw [dif_pos he];have e:=he.choose_spec.uniq h;rw [List.map_inj_right (fun a b e=>by exact Int.ofNat_inj.1 e) |>.1 e]
theorem hZq {L:List Nd} {N:Nat} (ht:TrOK L) (hu:∀ k,k<L.length→∃ xs,IsUp L (k:Int) xs) (hN:L.length=N) {i:Nat} (hi:i<N):∃ (x0:{k:Nat // k<N}) (xs:List {k:Nat // k<N}),IsUp L (i:Int) ((x0 :: xs).map upC)∧∀ M,seM L M i=seL M (rcN M i) ((x0 :: xs).map Subtype.val):=by
 obtain ⟨xs,hx⟩:=hu i (by omega);obtain ⟨ys,rfl⟩:=up_idx N hN hx
 cases ys with
 | nil=>have:(i:Int)=-1:=hx;omega
 | cons y ys=>exact ⟨y,ys,hx,fun M=>seM_eq (by rw [List.map_map];exact hx)⟩
theorem up_tr {L:List Nd} (hT:TrOK L):∀ (f k:Nat),k<f→k<L.length→∃ xs,IsUp L (k:Int) xs:=by
 intro f
 induction f with
 | zero=>intro k hk;omega
 | succ f ih =>
  intro k hk hl;have hn:=List.getElem?_eq_getElem hl
  rcases hT.up k _ hn with ⟨rfl,e⟩ | ⟨h0,h1,h2⟩
  ·exact ⟨[((0:Nat):Int)],IsUp.cons (by omega) (by rw [Int.toNat_natCast];exact hn) (by omega) (by omega) (by rw [e];exact IsUp.nil)⟩
  ·obtain ⟨p,hp⟩:∃ p:Nat,(L[k]'hl).pa=(p:Int):=⟨_,(Int.toNat_of_nonneg h1).symm⟩
   obtain ⟨xs,hx⟩:=ih p (by omega) (by omega);exact ⟨(k:Int) :: xs,IsUp.cons (by omega) (by rw [Int.toNat_natCast];exact hn) (by omega) (by omega) (by rw [hp];exact hx)⟩
noncomputable def hidF (L:List Nd) (M:List Re) (i:Nat):Bool:=!(seM L M i).isSome
noncomputable def hidM (L:List Nd) (a b:Int):List Int:=idsM (hidF L (lyL L a b)) (lyL L a b).length
theorem hidM_len (L:List Nd) (a b:Int):(hidM L a b).length≤10:=Nat.le_trans (vZ4 _ _) (hZg _ _ _)
theorem sZ9 (o:Option Re):∃ r:Re,dZv o=.tuple #[.agg #[.int .i64 (r.x),.int .i64 (r.y),.int .i64 (r.u),.int .i64 (r.v)],.bool o.isSome]:=by
 cases o with
 | none=>exact ⟨⟨0,0,0,0⟩,rfl⟩
 | some S=>exact ⟨S,rfl⟩
theorem dZt (A:Option Addr) (c:Nat) (R:List Nr) (M:List Re) (g i:Nat) (w:World) (hT:TrOK (R.map Nr.n)) (h:NrV w A R) (hM:ReB w g M) (hMR:M.length=R.length) (hL:∀ S∈M,Lw S.x S.y S.u S.v) (hi:i<R.length) :
  Calls Tryz.prog 71 #[.agg #[.slice A R.length c],.slice (some ⟨g,0,none⟩) R.length R.length,.int .i64 (i:Int)] w fun e w'=>e=.returned (dZv (seM (R.map Nr.n) M i))∧Below w.heap.size w w':=by
 obtain ⟨x0,xs,hu,he⟩:=hZq hT (fun k hk=>up_tr hT (k+1) k (by omega) hk) (List.length_map ..) hi;rw [he M];exact seenPart_v A c R M g i (x0 :: xs) w hT h hM hMR hL hi hu
theorem seen_m (A:Option Addr) (c:Nat) (R:List Nr) (M:List Re) (g i:Nat) (w:World) (hT:TrOK (R.map Nr.n)) (h:NrV w A R) (hM:ReB w g M) (hMR:M.length=R.length) (hL:∀ S∈M,Lw S.x S.y S.u S.v) (hi:i<R.length) :
  Calls Tryz.prog 73 #[.agg #[.slice A R.length c],.slice (some ⟨g,0,none⟩) R.length R.length,.int .i64 (i:Int)] w fun e w'=>e=.returned (dZv (seM (R.map Nr.n) M i))∧Below w.heap.size w w':=by
 obtain ⟨x0,xs,hu,he⟩:=hZq hT (fun k hk=>up_tr hT (k+1) k (by omega) hk) (List.length_map ..) hi;rw [he M];exact seen_v A c R M g i x0 xs w hT h hM hMR hL hi hu
theorem isHidden_v (A:Option Addr) (c:Nat) (R:List Nr) (M:List Re) (g i:Nat) (w:World) (hT:TrOK (R.map Nr.n)) (h:NrV w A R) (hM:ReB w g M) (hMR:M.length=R.length) (hL:∀ S∈M,Lw S.x S.y S.u S.v) (hi:i<R.length) :
  Calls Tryz.prog 83 #[.agg #[.slice A R.length c],.slice (some ⟨g,0,none⟩) R.length R.length,.int .i64 (i:Int)] w fun e w'=>e=.returned (.bool (hidF (R.map Nr.n) M i))∧Below w.heap.size w w':=by
 have hB0:Below w.heap.size w (w.alloc (.cells #[.slice A R.length c] 25 (0,0))):=jZd (Below.refl _ _);have HX:=hD (newS w (.cells #[.slice A R.length c] 25 (0,0)));have x0:=jZc HX.out 0;have HB:=hD hB0;have HC:=hD (dZt A c R M g i _ hT (h.keep hB0) (hM.keep hB0) hMR hL hi);clear h hM hL hB0;unfold hidF;generalize seM (R.map Nr.n) M i=v at *;obtain ⟨r,hr⟩:=sZ9 v;rw [hr] at HC
 generalize v.isSome=q at *;clear hr
 go_enter Tryz.func83,Tryz.ntmps83
 go_wp2_with fail
 refine HC.out.mono ?_;rintro e w1 ⟨rfl,hb⟩;replace HB:=hD (jZa HB.out hb);clear hb x0 HC HX
 go_upto_region 2 with (fail)
 refine kZf (fun W=>Below w.heap.size w W) ?g1 (fun W hW=>?_)
 case g1=>exact jZd HB.out
 have HW:=hD hW;clear hW HB;go_wp2;go_ret;exact ⟨rfl,HW.out⟩
theorem hid1_v (A:Option Addr) (c:Nat) (R:List Nr) (M:List Re) (g i bt br:Nat) (w:World) (hT:TrOK (R.map Nr.n)) (h:NrV w A R) (hM:ReB w g M) (hMR:M.length=R.length) (hL:∀ S∈M,Lw S.x S.y S.u S.v) (hi:i<R.length) (ht:w.cell? ⟨bt,0,none⟩=some (.slice A R.length c)) (hr:w.cell? ⟨br,0,none⟩=some (.slice (some ⟨g,0,none⟩) R.length R.length)) :
  Calls Tryz.prog 82 #[.int .i64 (i:Int),.pointer (some ⟨bt,0,none⟩),.pointer (some ⟨br,0,none⟩)] w fun e w'=>e=.returned (.bool (hidF (R.map Nr.n) M i))∧Below w.heap.size w w':=by
 have HC:=hD (isHidden_v A c R M g i w hT h hM hMR hL hi);clear hT h hM hMR hL
 go_enter Tryz.func82,Tryz.ntmps82
 go_wp2_with fail
 refine HC.out.mono ?_;rintro e w1 ⟨rfl,hb⟩;have HB:=hD hb;clear hb ht hr;go_wp2;go_ret;exact ⟨rfl,HB.out⟩
theorem eZq (A:Option Addr) (c k:Nat) (R:List Nr) (a b:Int) (w:World) (hk:k=R.length) (h:NrV w A R) (hr:RdR w R) (hL:R.length≤1048576) (hm:∀ p∈R,p.n.cs.length≤1048576∧p.n.rs.length≤1048576) :
  Calls Tryz.prog 40 #[.agg #[.slice A k c],.int .i64 a,.int .i64 b] w fun e w'=>(∃ x,e=.returned x∧GO w.heap.size w' x (hidM (R.map Nr.n) a b))∧Below w.heap.size w w':=by
 have hB0:Below w.heap.size w (w.alloc (.cells #[.slice A k c] 25 (0,0))):=jZd (Below.refl _ _);have HX:=hD (newS w (.cells #[.slice A k c] 25 (0,0)));have HB:=hD hB0;have HV:=hD (h.keep hB0);have HR:=hD (hr.keep hB0);have HM:=hD hm;have HK:=hD hk;have x0:=jZc HX.out 0;clear hB0 h hr hm hk
 go_enter Tryz.func40,Tryz.ntmps40
 go_wp2_with fail
 with_reducible refine (vZx A c k R a b _ HK.out HV.out HR.out hL HM.out).mono ?_
 rintro e w1 ⟨⟨x,rfl,hx⟩,hb⟩;clear x0;replace HX:=hbk hb HX;replace HV:=hD (HV.out.keep hb);replace HB:=hD (jZa HB.out hb);clear hb;have hok:=lyL_ok (L:=R.map Nr.n) (a:=a) (b:=b);have hlen:=hZg (R.map Nr.n) a b
 obtain ⟨M,hM⟩:∃ M,lyL (R.map Nr.n) a b=M:=⟨_,rfl⟩
 have HCP:=hD (show hidM (R.map Nr.n) a b=idsM (hidF (R.map Nr.n) M) M.length by unfold hidM;rw [hM]);rw [hM] at hx hok hlen;clear hM;obtain ⟨A1,rfl,hx1⟩:=hx.sl;have HX1:=hD hx1;have HOK:=hD hok;have hsz:w.heap.size≤w1.heap.size:=HB.out.size;have ltx:=ltS HX.out;clear hx hx1 hok
 go_upto_region 2 with (fail)
 refine kZf (fun W=>W.heap[w1.heap.size]?=some (.cells #[.slice A1 M.length M.length] 28 (0,0))∧Below w1.heap.size w1 W) ?g1 (fun W h=>?_)
 case g1=>exact ⟨newS _ _,jZd (Below.refl _ _)⟩
 obtain ⟨h1,hb⟩:=h;have HY:=hD h1;have x1:=jZc h1 0;have HX0:=hD ((hb.block _ ltx).trans HX.out);have x0:=jZc HX0.out 0;have HB1:=hD hb;clear h1 hb
 go_wp2_with fail
 refine (gZ7 M.length (hidF (R.map Nr.n) M) #[.pointer (some ⟨w.heap.size,0,none⟩),.pointer (some ⟨w1.heap.size,0,none⟩)] _ (by omega) (fun i hi W2 hW=>?_)).mono ?_
 ·obtain ⟨g,rfl,hg,hre⟩:=HX1.out (by omega);obtain ⟨hT,hMR,hLw⟩:=HOK.out (by omega);rw [List.length_map] at hMR;rw [hMR] at hi x1;exact hid1_v A c R M g i _ _ W2 hT ((HV.out.keep HB1.out).keep hW) ((hre.keep HB1.out).keep hW) hMR hLw hi (by rw [<- HK.out];exact jZc ((hW.block _ (ltS HX0.out)).trans HX0.out) 0) (by rw [<- hMR];exact jZc ((hW.block _ (ltS HY.out)).trans HY.out) 0)
 rintro e w2 ⟨⟨v,rfl,hv⟩,hb2⟩;have HG:=hD (hv.mono (show w.heap.size≤W.heap.size by have:=HB1.out.size;omega));replace HB:=hD (jZa (jZa HB.out HB1.out) hb2);clear hv hb2 x0 x1 HX HX0 HY HV HR;go_wp2;go_ret;exact ⟨⟨v,rfl,by rw [HCP.out];exact HG.out⟩,HB.out⟩
theorem tZv (A:Option Addr) (c k:Nat) (R:List Nr) (a b:Int) (w:World) (hk:k=R.length) (h:NrV w A R) (hr:RdR w R) (hL:R.length≤1048576) (hm:∀ p∈R,p.n.cs.length≤1048576∧p.n.rs.length≤1048576) :
  Calls Tryz.prog 41 #[.agg #[.slice A k c],.int .i64 a,.int .i64 b] w fun e w'=>(∃ x,e=.returned x∧NR w' x (hidM (R.map Nr.n) a b))∧Below w.heap.size w w':=by
 obtain ⟨ti,tz,ti1,ti2,ti3,ti4,ti5⟩:=rZx;have hB0:Below w.heap.size w (w.alloc (.cells #[.slice A k c] 25 (0,0))):=jZd (Below.refl _ _);have HX:=hD (newS w (.cells #[.slice A k c] 25 (0,0)));have HB:=hD hB0;have HV:=hD (h.keep hB0);have HR:=hD (hr.keep hB0);have HM:=hD hm;have HK:=hD hk;have x0:=jZc HX.out 0;clear hB0 h hr hm hk
 cases ht:sZj (R.map Nr.n)
 ·rw [show hidM (R.map Nr.n) a b=[] by simp [hidM,lyL,ht];rfl];have HT:=hD ht;clear ht
  go_enter Tryz.func41,Tryz.ntmps41
  go_wp2_with fail
  with_reducible refine (qZ8 A c k R false _ HK.out HV.out HR.out hL HM.out HT.out).mono ?_
  rintro e w1 ⟨rfl,hb⟩;clear x0;replace HX:=hbk hb HX;replace HB:=hD (jZa HB.out hb);clear hb;have x0:=jZc HX.out 0;go_wp2;go_ret;exact ⟨⟨_,rfl,⟨none,0,rfl,NV.nil _ _⟩⟩,HB.out⟩
 ·cases hg:rgG a b
  ·rw [show hidM (R.map Nr.n) a b=[] by simp [hidM,lyL,hg];rfl];have HT:=hD ht;clear ht
   go_enter Tryz.func41,Tryz.ntmps41
   go_wp2_with fail
   with_reducible refine (qZ8 A c k R true _ HK.out HV.out HR.out hL HM.out HT.out).mono ?_
   rintro e w1 ⟨rfl,hb⟩;clear x0;replace HX:=hbk hb HX;replace HB:=hD (jZa HB.out hb);clear hb;have x0:=jZc HX.out 0
   go_wp2_with fail
   with_reducible refine (dZm a b _).mono ?_
   rintro e w2 ⟨rfl,rfl⟩;rw [hg];clear hg;go_wp2;go_ret;exact ⟨⟨_,rfl,⟨none,0,rfl,NV.nil _ _⟩⟩,HB.out⟩
  ·have hok:=lyL_ok (L:=R.map Nr.n) (a:=a) (b:=b)
   have hly:lyL (R.map Nr.n) a b=(List.range k).map (lrM (R.map Nr.n) a b):=by simp [lyL,ht,hg,HK.out]
   unfold hidM
   have hk1:1≤k:=by have:=(sZg ht).l1;rw [List.length_map] at this;have:=HK.out;omega
   obtain ⟨M,hM⟩:∃ M,(List.range k).map (lrM (R.map Nr.n) a b)=M:=⟨_,rfl⟩
   have hml:M.length=k:=by rw [<- hM,List.length_map,List.length_range]
   rw [hly,hM] at hok;rw [hly,hM];have HMM:=hD hM;clear hM;obtain ⟨hT,hMR,hLw⟩:=hok (by omega);rw [List.length_map] at hMR;rw [hMR,<- HK.out];have HT:=hD ht;have HG:=hD (cZm hg);have HLW:=hD (And.intro hMR hLw);clear ht hly hT hMR hLw
   go_enter Tryz.func41,Tryz.ntmps41
   go_wp2_with fail
   with_reducible refine (qZ8 A c k R true _ HK.out HV.out HR.out hL HM.out HT.out).mono ?_
   rintro e w1 ⟨rfl,hb⟩;clear x0;replace HX:=hbk hb HX;replace HV:=hD (HV.out.keep hb);replace HR:=hD (HR.out.keep hb);replace HB:=hD (jZa HB.out hb);clear hb;have x0:=jZc HX.out 0
   go_wp2_with fail
   with_reducible refine (dZm a b _).mono ?_
   rintro e w2 ⟨rfl,rfl⟩;rw [hg];clear hg
   go_wp2_with fail
   with_reducible refine (slayout_v A c k R a b _ (sZg HT.out) HK.out HV.out HR.out HG.out.1 HG.out.2).mono ?_
   rintro e w3 ⟨⟨g,rfl,hgl,hre⟩,hb⟩;have HRE:=hD hre;clear x0 hre hgl;replace HX:=hbk hb HX;replace HV:=hD (HV.out.keep hb);replace HB:=hD (jZa HB.out hb);clear hb;clear HR;rw [HMM.out] at HRE
   have HO:=hD (show (w3.alloc (.cells #[] 3 (0,0))).ownsRow w3.heap.size 3 1 (.slice (some ⟨w3.heap.size,0,none⟩) 0 0) 0 (kZt []) from World.ownsRow_lit (base:=w3.heap.size) (e:=3) (size:=1) w3 #[] 0 (by simp) (by decide) rfl);have hsz:w.heap.size≤w3.heap.size:=HB.out.size;have ltx:=ltS HX.out;have lt3:w.heap.size<w3.heap.size:=ltx
   go_wp2_with fail
   go_loopw [8,9] (fun out iv wr=>∃ i:Nat,i≤k∧iv=.int .i64 (i:Int)∧wr.ownsRow w3.heap.size 3 1 out (idsM (hidF (R.map Nr.n) M) i).length (kZt (idsM (hidF (R.map Nr.n) M) i))∧Below w3.heap.size w3 wr) (fun _ iv _=>k-(intOf iv).toNat)
   case atStart=>exact ⟨0,Nat.zero_le _,rfl,HO.out,jZd (Below.refl _ _)⟩
   case round =>
    obtain ⟨i,hik,rfl,ho,hbr⟩:=hrel;clear HO;have HO:=hD ho;have HBR:=hD hbr;have hob:=ho.lt;have hw3:w3.heap.size≤wr.heap.size:=hbr.size;have HX1:=hD ((hbr.block _ lt3).trans HX.out);have x0:=jZc HX1.out 0;have hil:=vZ4 (hidF (R.map Nr.n) M) i
    by_cases hlt:i<k
    ·have hd:decide ((i:Int)<(k:Int))=true:=decide_eq_true (by omega)
     have hdi:(i:Int)<(k:Int):=by omega
     have hi:i<R.length:=by have:=HK.out;omega
     have hMR:=HLW.out.1;have HC:=hD (HK.out ▸ seen_m A c R M g i wr (sZg HT.out) (HV.out.keep hbr) (HRE.out.keep hbr) hMR HLW.out.2 hi)
     obtain ⟨v,hv⟩:∃ v,seM (R.map Nr.n) M i=v:=⟨_,rfl⟩
     have hcl:hidF (R.map Nr.n) M i=!v.isSome:=by unfold hidF;rw [hv]
     rw [hv] at HC;obtain ⟨r,hr⟩:=sZ9 v;rw [hr] at HC;generalize v.isSome=q at *;obtain ⟨b0,off,rfl,-⟩:=HV.out.cells (by have:=HK.out;omega)
     have hk10:k≤10:=by have:=(sZg HT.out).l10;rw [List.length_map] at this;have:=HK.out;omega
     clear hr hv hbr ho hMR
     cases q
     ·simp only [Bool.not_false] at hcl;have hids:=eZi hcl;have HIDS:=hD hids;clear hcl hids
      go_wp2_with fail
      refine HC.out.mono ?_;rintro e w5 ⟨rfl,hb5⟩;replace HO:=hD (cZi HO.out hb5);replace HBR:=hD (bkeep HBR.out hb5 hw3);have hs5:=hb5.size;clear hb5 x0 HC
      go_upto_region 9 with (fail)
      refine kZf (fun W=>W.ownsRow w3.heap.size 3 1 u8 (idsM (hidF (R.map Nr.n) M) i).length (kZt (idsM (hidF (R.map Nr.n) M) i))∧Below w3.heap.size w3 W) ⟨HO.out.alloc _,(bkeep HBR.out (jZd (Below.refl _ _)) (by omega))⟩ (fun W6 h6=>?_);obtain ⟨ho6,hb6⟩:=h6;replace HO:=hD ho6;replace HBR:=hD hb6;have hw6:w3.heap.size≤W6.heap.size:=hb6.size;clear ho6 hb6;have hob5:=HO.out.lt;clear hob
      go_wp2_with (at_builtin;refine wpList_append_own _ rfl _ _ 47 rfl w3.heap.size 3 ti tz 1 8 Tryz.underlying47 ti1 ti2 ti3 ti4 ti5 (by decide) _ _ _ rfl (HO.out.alloc _) ⟨W6.heap.size,0,none⟩ 1 1 [.int .i64 (i:Int)] rfl rfl (newW _ _ _) (by simp [Value.oneCell']) (by simp only [maxLen];omega) (by omega) (by simp;omega) ?_)
      intro v6 w6 how6 hgr6 _;rw [rZn,<- HIDS.out] at how6;have HB6:=hD (qZr (n:=w3.heap.size) HBR.out hgr6 (lo:=w3.heap.size) (hi:=W6.heap.size) hob5 (Nat.le_refl _) (Nat.le_refl _));have HO6:=hD how6;have hx6:=hD ((HB6.out.block _ lt3).trans HX.out);have x6:=jZc hx6.out 0
      have hl6:(idsM (hidF (R.map Nr.n) M) i).length+1=(idsM (hidF (R.map Nr.n) M) (i+1)).length:=by rw [HIDS.out];simp
      have HL6:=hD hl6;clear how6 hgr6 hob5 HO HBR hl6;go_wp2
      go_roundw
      case rel=>exact ⟨i+1,by omega,by go_num,by have:=HO6.out;rwa [<- HL6.out],HB6.out⟩
      case measure=>simp [intOf];omega
     ·simp only [Bool.not_true] at hcl;have hids:=eZn hcl;have HIDS:=hD hids;clear hcl hids
      go_wp2_with fail
      refine HC.out.mono ?_;rintro e w5 ⟨rfl,hb5⟩;replace HO:=hD (cZi HO.out hb5);replace HBR:=hD (bkeep HBR.out hb5 hw3);have hs5:=hb5.size;clear hb5 x0 HC
      go_upto_region 9 with (fail)
      refine kZf (fun W=>W.ownsRow w3.heap.size 3 1 u8 (idsM (hidF (R.map Nr.n) M) i).length (kZt (idsM (hidF (R.map Nr.n) M) i))∧Below w3.heap.size w3 W) ⟨HO.out.alloc _,(bkeep HBR.out (jZd (Below.refl _ _)) (by omega))⟩ (fun W6 h6=>?_);obtain ⟨ho6,hb6⟩:=h6;replace HO:=hD ho6;replace HBR:=hD hb6;have hw6:w3.heap.size≤W6.heap.size:=hb6.size;clear ho6 hb6;clear hob;go_wp2
      go_roundw
      case rel=>exact ⟨i+1,by omega,by go_num,by rw [HIDS.out];exact HO.out,HBR.out⟩
      case measure=>simp [intOf];omega
    ·obtain rfl:i=k:=by omega
     have hd:decide ((i:Int)<(i:Int))=false:=by simp
     obtain ⟨b0,off,rfl,-⟩:=HV.out.cells (by have:=HK.out;omega);go_wp2;go_ret;exact ⟨⟨_,rfl,(GO.of HO.out (by rfl)).nr⟩,bkeep HB.out hbr hsz⟩
end
def inRe (S T:Re):Prop:=S.x≤T.x∧S.y≤T.y∧T.x+T.u≤S.x+S.u∧T.y+T.v≤S.y+S.v
theorem fZf (S T:Re):inRe S (rZs S T)∧inRe T (rZs S T):=by
 have:=kZc S.x T.x;have:=kZc S.y T.y;have:=jZz (S.x+S.u) (T.x+T.u);have:=jZz (S.y+S.v) (T.y+T.v)
 unfold inRe rZs
 dsimp only
 omega
theorem bZ0 {S T:Re}:sZc S T=true↔(0<(rZs S T).u∧0<(rZs S T).v):=by unfold sZc rZs;exact uZ0
theorem cZj {S S':Re} (T:Re) (h:inRe S' S):inRe (rZs S' T) (rZs S T):=by
 have:=kZc S.x T.x;have:=kZc S.y T.y;have:=jZz (S.x+S.u) (T.x+T.u);have:=jZz (S.y+S.v) (T.y+T.v)
 have:=kZc S'.x T.x;have:=kZc S'.y T.y;have:=jZz (S'.x+S'.u) (T.x+T.u);have:=jZz (S'.y+S'.v) (T.y+T.v)
 unfold inRe rZs at *
 dsimp only
 omega
theorem hitRe_mono {S S':Re} (T:Re) (h:inRe S' S) (k:sZc S' T=false):sZc S T=false:=by
 cases e:sZc S T
 ·rfl
 ·have m:=cZj T h;obtain ⟨a,b⟩:=bZ0.1 e
  have:sZc S' T=true:=bZ0.2 (by unfold inRe at m;omega)
  rw [this] at k
  cases k
theorem seL_mono {M:List Re}:∀ {ks:List Nat} {S S':Re},inRe S' S→seL M S' ks=none→seL M S ks=none
 | [],S,S',_,h=>by cases h
 | k :: ks,S,S',hi,h=>by
  simp only [seL] at h ⊢
  split
  ·rename_i e
   split at h
   ·exact seL_mono (cZj _ hi) h
   ·rename_i e'
    have:=hitRe_mono (rcN M k) hi (by simpa using e')
    rw [this] at e
    cases e
  ·rfl
theorem seL_down {M:List Re} {k p:Nat} {r:List Nat} (h:seL M (rcN M p) (p :: r)=none):seL M (rcN M k) (k :: p :: r)=none:=by
 simp only [seL,bZ4] at h ⊢
 split
 ·split
  ·rename_i e2
   have hp:sZc (rcN M p) (rcN M p)=true:=by
    obtain ⟨a,b⟩:=bZ0.1 e2;have m:=(fZf (rcN M k) (rcN M p)).2;rw [cZ8];unfold inRe at m;simp only [Bool.and_eq_true,decide_eq_true_eq];omega
   rw [if_pos hp] at h;exact seL_mono (fZf _ _).2 h
  ·rfl
 ·rfl
theorem upC_map {N:Nat} (xs:List {k:Nat // k<N}):xs.map upC=(xs.map Subtype.val).map fun (k:Nat)=>(k:Int):=by rw [List.map_map];rfl
theorem way_of {L:List Nd} (hT:TrOK L) {p:Nat} (hp:p<L.length):∃ r:List Nat,IsUp L (p:Int) ((p :: r).map fun (k:Nat)=>(k:Int))∧∀ M,seM L M p=seL M (rcN M p) (p :: r):=by
 obtain ⟨x0,xs,hu,he⟩:=hZq hT (fun k hk=>up_tr hT (k+1) k (by omega) hk) rfl hp;have hu':=hu;rw [upC_map] at hu';obtain ⟨e,-⟩:=hu
 have e2:x0.1=p:=by change (x0.1:Int)=(p:Int) at e;omega
 refine ⟨xs.map Subtype.val,?_,fun M=>?_⟩
 ·rw [List.map_cons,e2] at hu';exact hu'
 ·rw [he M,List.map_cons,e2]
theorem seM_down {L:List Nd} {M:List Re} (hT:TrOK L) {k p:Nat} {n:Nd} (hk:L[k]?=some n) (hpk:p<k) (hp:n.pa=(p:Int)) (h:seM L M p=none):seM L M k=none:=by
 have hl:=(List.getElem?_eq_some_iff.1 hk).1;obtain ⟨r,hu,he⟩:=way_of hT (p:=p) (by omega);rw [he M] at h
 have hk2:IsUp L (k:Int) ((k :: p :: r).map fun (k:Nat)=>(k:Int)):=by
  rw [List.map_cons];exact IsUp.cons (n:=n) (by omega) (by rw [Int.toNat_natCast];exact hk) (by omega) (by omega) (by rw [hp];exact hu)
 rw [seM_eq hk2];exact seL_down h
theorem hidM_in {L:List Nd} {a b:Int} {k:Nat} (hk:k<(lyL L a b).length):decide ((k:Int)∈hidM L a b)=!(seM L (lyL L a b) k).isSome:=by
 have:(k:Int)∈hidM L a b↔hidF L (lyL L a b) k=true:=by
  unfold hidM idsM idsN;simp only [List.mem_map,List.mem_filter,List.mem_range]
  constructor
  ·rintro ⟨j,⟨_,h2⟩,h3⟩
   obtain rfl:j=k:=by omega
   exact h2
  ·exact fun h=>⟨k,⟨hk,h⟩,rfl⟩
 rw [Bool.eq_iff_iff,decide_eq_true_eq,this]
 rfl
section
theorem eqNilS (A:Option Addr) (n c:Nat) (w:World):(binOp .eql 28 (.slice A n c) (.slice none 0 0)).run Tryz.prog w=.ok (.bool A.isNone) w:=Lib.run_eql_slice_nil w _ _ A n c 0 0 Tryz.underlying28
attribute [local go_sem] eqNilS
noncomputable def spM (L:List Nd) (a b i:Int):Option Re:=if 0<(lyL L a b).length∧rng i 0 ((L.length:Int)-1)=true then seM L (lyL L a b) i.toNat else none
theorem seVal_ex (o:Option Re):∃ (r:Re) (q:Bool),dZv o=.tuple #[.agg #[.int .i64 (r.x),.int .i64 (r.y),.int .i64 (r.u),.int .i64 (r.v)],.bool q]:=let ⟨r,h⟩:=sZ9 o;⟨r,_,h⟩
theorem SeenPart_v (A:Option Addr) (c k:Nat) (R:List Nr) (a b i:Int) (w:World) (hk:k=R.length) (h:NrV w A R) (hr:RdR w R) (hL:R.length≤1048576) (hm:∀ p∈R,p.n.cs.length≤1048576∧p.n.rs.length≤1048576) :
  Calls Tryz.prog 31 #[.agg #[.slice A k c],.int .i64 a,.int .i64 b,.int .i64 i] w fun e w'=>e=.returned (dZv (spM (R.map Nr.n) a b i))∧Below w.heap.size w w':=by
 have hB0:Below w.heap.size w ((w.alloc (.cells #[.slice A k c] 25 (0,0))).alloc (.cells zRe 32 (0,0))):=jZd (jZd (Below.refl _ _));have HX:=hD (show ((w.alloc (.cells #[.slice A k c] 25 (0,0))).alloc (.cells zRe 32 (0,0))).heap[w.heap.size]?=some (.cells #[.slice A k c] 25 (0,0)) from (Below.heap_alloc _ _ _ (by simp)).trans (newS _ _))
 have HZ:=hD (show ((w.alloc (.cells #[.slice A k c] 25 (0,0))).alloc (.cells zRe 32 (0,0))).heap[w.heap.size+1]?=some (.cells zRe 32 (0,0)) from by have:=newS (w.alloc (.cells #[.slice A k c] 25 (0,0))) (.cells zRe 32 (0,0));rwa [World.size_alloc] at this);have HB:=hD hB0
 have HV:=hD (NrV.keep h (jZd (Below.refl _ _)) |>.keep (jZd (o:=.cells zRe 32 (0,0)) (Below.refl _ (w.alloc (.cells #[.slice A k c] 25 (0,0))))));have HR:=hD (RdR.keep hr (jZd (Below.refl _ _)) |>.keep (jZd (o:=.cells zRe 32 (0,0)) (Below.refl _ (w.alloc (.cells #[.slice A k c] 25 (0,0))))));have HM:=hD hm;have HK:=hD hk;have x0:=jZc HX.out 0;clear hB0 h hr hm hk
 go_enter Tryz.func31,Tryz.ntmps31
 go_wp2_with fail
 refine (vZv A c k R a b _ HK.out HV.out HR.out hL HM.out).mono ?_;rintro e w1 ⟨⟨x,rfl,hx,hnil⟩,hb⟩;clear x0;replace HX:=hbk hb HX;replace HZ:=hbk hb HZ;replace HV:=hD (HV.out.keep hb);replace HR:=hD (HR.out.keep hb);replace HB:=hD (jZa HB.out hb);clear hb;have x0:=jZc HX.out 0;have hok:=lyL_ok (L:=R.map Nr.n) (a:=a) (b:=b)
 obtain ⟨M,hM⟩:∃ M,lyL (R.map Nr.n) a b=M:=⟨_,rfl⟩
 have HCP:=hD (show spM (R.map Nr.n) a b i=if 0<M.length∧rng i 0 ((k:Int)-1)=true then seM (R.map Nr.n) M i.toNat else none by unfold spM;rw [hM,List.length_map,HK.out]);rw [hM] at hx hok hnil;clear hM;have hsz:w.heap.size+1<w1.heap.size:=ltS HZ.out
 rcases Nat.eq_zero_or_pos M.length with hz | hz
 ·obtain rfl:=hnil hz;have HN:=hD (show spM (R.map Nr.n) a b i=none by rw [HCP.out,if_neg (by omega)])
  have hp2:(w1.setCells (w.heap.size+1) 0 (jZr ⟨0,0,0,0⟩)).heap[w.heap.size+1]?=some (.cells (jZr ⟨0,0,0,0⟩).toArray 32 (0,0)):=by rw [jZ4 _ _ _ _ HZ.out,pZ3 (by rfl)]
  have hb2:Below w.heap.size w (w1.setCells (w.heap.size+1) 0 (jZr ⟨0,0,0,0⟩)):=jZi (by omega) _ _ _ HB.out;obtain ⟨⟨e0,e1,e2,e3⟩,-⟩:=gZz hp2;have HB2:=hD hb2;clear hx hok hnil hz hp2 hb2 HV HR HCP
  go_wp2_with (first|((with_reducible show wpList _ _ _ _ _ _);refine stR (.tmp 8) (.tmp 23) ⟨0,0,0,0⟩ (w.heap.size+1) rfl rfl HZ.out rfl rfl rfl ?_))
  exact bodyPost_ret (v:=.tuple #[.agg #[.int .i64 (0),.int .i64 (0),.int .i64 (0),.int .i64 (0)],.bool false]) (by simp only [results,Tryz.results31];go_simp) rfl ⟨by rw [HN.out];rfl,HB2.out⟩
 ·obtain ⟨hT,hMR,hLw⟩:=hok hz;obtain ⟨A1,rfl,hx1⟩:=hx.sl;obtain ⟨g,rfl,hg,hre⟩:=hx1 hz;rw [List.length_map] at hMR;have HRE:=hD hre;have HT:=hD hT;have HMR:=hD hMR;have HLW:=hD hLw;have HZZ:=hD hz
  have hkl:k≤1048576:=by have:=HK.out;omega
  clear hx hx1 hok hnil hre hT hMR hg hLw hz;rw [HMR.out]
  obtain ⟨q,hq⟩:∃ q,rng i 0 ((k:Int)-1)=q:=⟨_,rfl⟩
  have HQ:=hD hq
  go_wp2_with fail
  with_reducible refine (has_v A c k i q _ hkl hq).mono ?_
  rintro e w2 ⟨rfl,hb⟩;clear x0 hq;replace HX:=hbk hb HX;replace HZ:=hbk hb HZ;replace HV:=hD (HV.out.keep hb);replace HR:=hD (HR.out.keep hb);replace HRE:=hD (HRE.out.keep hb);replace HB:=hD (jZa HB.out hb);clear hb;have x0:=jZc HX.out 0;have hs2:w.heap.size+1<w2.heap.size:=ltS HZ.out
  cases q
  ·have HN:=hD (show spM (R.map Nr.n) a b i=none by rw [HCP.out,if_neg (by rw [HQ.out];simp)])
   have hp2:(w2.setCells (w.heap.size+1) 0 (jZr ⟨0,0,0,0⟩)).heap[w.heap.size+1]?=some (.cells (jZr ⟨0,0,0,0⟩).toArray 32 (0,0)):=by rw [jZ4 _ _ _ _ HZ.out,pZ3 (by rfl)]
   have hb2:Below w.heap.size w (w2.setCells (w.heap.size+1) 0 (jZr ⟨0,0,0,0⟩)):=jZi (by omega) _ _ _ HB.out;obtain ⟨⟨e0,e1,e2,e3⟩,-⟩:=gZz hp2;have HB2:=hD hb2;clear hp2 hb2 HV HR HCP
   go_wp2_with (first|((with_reducible show wpList _ _ _ _ _ _);refine stR (.tmp 8) (.tmp 23) ⟨0,0,0,0⟩ (w.heap.size+1) rfl rfl HZ.out rfl rfl rfl ?_))
   exact bodyPost_ret (v:=.tuple #[.agg #[.int .i64 (0),.int .i64 (0),.int .i64 (0),.int .i64 (0)],.bool false]) (by simp only [results,Tryz.results31];go_simp) rfl ⟨by rw [HN.out];rfl,HB2.out⟩
  ·obtain ⟨i1,i2⟩:=pZa.1 HQ.out;obtain ⟨j,rfl⟩:=Int.eq_ofNat_of_zero_le i1
   have hj:j<R.length:=by have:=HK.out;omega
   obtain ⟨r,t,hv⟩:=seVal_ex (seM (R.map Nr.n) M j);have HN:=hD (show dZv (spM (R.map Nr.n) a b (j:Int))=.tuple #[.agg #[.int .i64 (r.x),.int .i64 (r.y),.int .i64 (r.u),.int .i64 (r.v)],.bool t] by rw [HCP.out,if_pos ⟨HZZ.out,HQ.out⟩,Int.toNat_natCast,hv]);have HS:=hD (dZt A c R M g j w2 HT.out HV.out HRE.out HMR.out HLW.out hj);rw [hv,<- HK.out] at HS;clear hv HCP;rw [<- HK.out]
   go_wp2_with fail
   refine HS.out.mono ?_;rintro e w3 ⟨rfl,hb⟩;clear x0 HV HR HRE HX;replace HZ:=hD ((hb.block _ (ltS HZ.out)).trans HZ.out);replace HB:=hD (jZa HB.out hb)
   have hp2:(w3.setCells (w.heap.size+1) 0 (jZr r)).heap[w.heap.size+1]?=some (.cells (jZr r).toArray 32 (0,0)):=by rw [jZ4 _ _ _ _ HZ.out,pZ3 (by rfl)]
   have hb2:Below w.heap.size w (w3.setCells (w.heap.size+1) 0 (jZr r)):=jZi (by omega) _ _ _ HB.out;obtain ⟨⟨e0,e1,e2,e3⟩,-⟩:=gZz hp2;have HB2:=hD hb2;clear hb hp2 hb2 HS
   go_wp2_with (first|((with_reducible show wpList _ _ _ _ _ _);refine stR (.tmp 8) (.tmp 28) r (w.heap.size+1) rfl rfl HZ.out rfl rfl rfl ?_))
   exact bodyPost_ret (v:=.tuple #[.agg #[.int .i64 (r.x),.int .i64 (r.y),.int .i64 (r.u),.int .i64 (r.v)],.bool t]) (by simp only [results,Tryz.results31];go_simp) rfl ⟨by rw [HN.out],HB2.out⟩
end
section
attribute [local go_sem] jZ0 jZ5 jZ2
end




section
attribute [local go_sem] jZ0 jZ5 jZ2
end

theorem bZw (v v':Value) (L:List Int) (w:World) (h:NR w v L) (h':NR w v' L) (hL:L.length≤1048576) :
  Calls Tryz.prog 21 #[v,v'] w fun e w'=>e=.returned (.bool true)∧Below w.heap.size w w':=by
 obtain ⟨A,c,rfl,h⟩:=h;obtain ⟨B,c',rfl,h'⟩:=h'
 go_enter Tryz.func21,Tryz.ntmps21
 go_wp2_with fail
 go_loopw [5] (fun i wr=>∃ k:Nat,k≤L.length∧i=.int .i64 k∧Below w.heap.size w wr) (fun i _=>L.length-(intOf i).toNat)
 case atStart=>exact ⟨0,by omega,rfl,Below.refl _ _⟩
 case round =>
  obtain ⟨k,hk,rfl,hB⟩:=hrel
  by_cases hlt:k<L.length
  ·have hd:decide ((k:Int)<(L.length:Int))=true:=by simpa using hlt
   obtain ⟨b,off,rfl,hb,hp⟩:=(h.keep hB).cells (by omega);obtain ⟨b',off',rfl,hb',hp'⟩:=(h'.keep hB).cells (by omega);have hget:L[k]?=some L[k]:=List.getElem?_eq_getElem hlt;have c0:=hp k _ hget;have d0:=hp' k _ hget;generalize hx:L[k]=x at *;have HB:=hD hB;clear hget hx hp hp' hB
   go_wp2_with fail
   refine jZg 9 0 (·<9) (by kernel_rfl) (by kernel_rfl) rfl ?_
   iterate 9 (refine jZ3 (fun K hK=>?_);first|(refine kZr rfl ?_;go_simp;refine hK _ ?_;clear hK K)|(apply Exists.intro;refine ⟨.inl ⟨rfl,fun w' hw'=>?_⟩,?_⟩;(focus ((obtain ⟨hc,hf⟩:=kZi hw'.out);(have hcS:=kZq hw'.out);go_simp <;> first | rfl|(fail)));(go_simp;refine hK _ ?_;clear hK K)))
   refine jZ9 ?_;refine jZ1 (by kernel_rfl) (fun w1 hg1=>?_);have hb1:=jZs hg1.out;refine jZq (by kernel_rfl) ?_;refine kZ0.thn ?_;clear hg1;replace HB:=hD (HB.out.trans (hb1.mono HB.out.size));clear hb1 c0 d0;go_wp2
   go_roundw
   case rel=>exact ⟨k+1,by omega,by go_num,HB.out⟩
   case measure=>simp [intOf];omega
  ·have hd:decide ((k:Int)<(L.length:Int))=false:=by simp;omega
   have HB:=hD hB;clear hB;go_wp2;go_ret;exact ⟨rfl,HB.out⟩
theorem idsM_pw (f:Nat→Bool) (n:Nat):(idsM f n).Pairwise (· < ·):=by
 unfold idsM idsN;rw [List.pairwise_map];exact (List.pairwise_lt_range.filter f).imp (fun h=>by omega)
theorem idsM_asc {f:Nat→Bool} {n m:Nat} {a b:Int} (h1:(idsM f n)[m]?=some a) (h2:(idsM f n)[m+1]?=some b):a<b:=by
 obtain ⟨l1,e1⟩:=List.getElem?_eq_some_iff.1 h1;obtain ⟨l2,e2⟩:=List.getElem?_eq_some_iff.1 h2
 have:=List.pairwise_iff_getElem.1 (idsM_pw f n) m (m+1) l1 l2 (by omega)
 rw [e1,e2] at this;exact this
theorem cZ5 (v:Value) (x:Int) (L:List Int) (b:Bool) (w:World) (h:NR w v L) (hL:L.length≤1048576) (hb:decide (x∈L)=b) :
  Calls Tryz.prog 24 #[v,.int .i64 x] w fun e w'=>e=.returned (.bool b)∧Below w.heap.size w w':=by
 obtain ⟨A,c,rfl,h⟩:=h;have HBB:=hD hb;clear hb
 go_enter Tryz.func24,Tryz.ntmps24
 go_wp2_with fail
 go_loopw [5] (fun i wr=>∃ k:Nat,k≤L.length∧i=.int .i64 k∧x ∉ L.take k∧Below w.heap.size w wr) (fun i _=>L.length-(intOf i).toNat)
 case atStart=>exact ⟨0,by omega,rfl,by simp,Below.refl _ _⟩
 case round =>
  obtain ⟨k,hk,rfl,hno,hB⟩:=hrel
  by_cases hlt:k<L.length
  ·have hd:decide ((k:Int)<(L.length:Int))=true:=by simpa using hlt
   obtain ⟨ad,off,rfl,hbl,hp⟩:=(h.keep hB).cells (by omega);have hget:L[k]?=some L[k]:=List.getElem?_eq_getElem hlt;have c0:=hp k _ hget
   have htk:L.take (k+1)=L.take k ++ [L[k]]:=by rw [List.take_add_one,hget];rfl
   have hmem:L[k]∈L:=List.getElem_mem hlt;generalize L[k]=y at *;have HB:=hD hB;have HNO:=hD hno;have HTK:=hD htk;have HME:=hD hmem;clear hget hp hB hno htk hmem
   by_cases e:y=x
   ·have d1:(y == x)=true:=by simp [e]
    obtain rfl:b=true:=by rw [<- HBB.out,decide_eq_true (by rw [<- e];exact HME.out)]
    clear e;go_wp2;go_ret;exact ⟨rfl,HB.out⟩
   ·have d1:(y == x)=false:=by simp [e]
    have HE:=hD e;clear e;go_wp2
    go_roundw
    case rel=>exact ⟨k+1,by omega,by go_num,by
     rw [HTK.out,List.mem_append];rintro (q | q)
     ·exact HNO.out q
     ·exact HE.out (List.mem_singleton.1 q).symm,HB.out⟩
    case measure=>simp [intOf];omega
  ·have hd:decide ((k:Int)<(L.length:Int))=false:=decide_eq_false (by omega);rw [List.take_of_length_le (by omega)] at hno
   obtain rfl:b=false:=by rw [<- HBB.out,decide_eq_false hno]
   have HB:=hD hB;clear hB hno;go_wp2;go_ret;exact ⟨rfl,HB.out⟩
theorem ascends_v (v:Value) (L:List Int) (w:World) (h:NR w v L) (hL:L.length≤1048576) (ha:∀ (m:Nat) (a b:Int),L[m]?=some a→L[m+1]?=some b→a<b) :
  Calls Tryz.prog 25 #[v] w fun e w'=>e=.returned (.bool true)∧Below w.heap.size w w':=by
 obtain ⟨A,c,rfl,h⟩:=h;have HAS:=hD ha;clear ha
 go_enter Tryz.func25,Tryz.ntmps25
 go_wp2_with fail
 go_loopw [3] (fun i wr=>∃ k:Nat,i=.int .i64 ((k+1:Nat):Int)∧Below w.heap.size w wr) (fun i _=>L.length-(intOf i).toNat)
 case atStart=>exact ⟨0,rfl,Below.refl _ _⟩
 case round =>
  obtain ⟨k,rfl,hB⟩:=hrel;have HB:=hD hB
  by_cases hlt:k+1<L.length
  ·have hd:decide ((k:Int)+1<(L.length:Int))=true:=by simp;omega
   have hd2:decide (((k+1:Nat):Int)<(L.length:Int))=true:=by simp;omega
   obtain ⟨b,off,rfl,hbl,hcl⟩:=(h.keep hB).cells (by omega)
   obtain ⟨x,hx⟩:∃ x,L[k]?=some x:=⟨_,List.getElem?_eq_getElem (by omega)⟩
   obtain ⟨y,hy⟩:∃ y,L[k+1]?=some y:=⟨_,List.getElem?_eq_getElem hlt⟩
   have y0:=hcl k _ hx;have y1:=hcl (k+1) _ hy;have hxy:=HAS.out k x y hx hy
   have hkl:(k:Int)<(L.length:Int):=by omega
   have hkl1:(k:Int)+1<(L.length:Int):=by omega
   have hk0:(0:Int)≤(k:Int)+1:=by omega
   have wk:IntKind.i64.wrap (k:Int)=(k:Int):=IntWalk.i64_in _ (by omega);have hle:decide (y≤x)=false:=decide_eq_false (by omega);clear hcl hx hy hB hxy
   go_wp2_with fail
   refine jZg 10 0 (·<10) (by kernel_rfl) (by kernel_rfl) rfl ?_
   iterate 10 (refine jZ3 (fun K hK=>?_);first|(refine kZr rfl ?_;go_simp;refine hK _ ?_;clear hK K)|(apply Exists.intro;refine ⟨.inl ⟨rfl,fun w' hw'=>?_⟩,?_⟩;(focus ((obtain ⟨hc,hf⟩:=kZi hw'.out);(have hcS:=kZq hw'.out);go_simp <;> first | rfl | fail));(go_simp;refine hK _ ?_;clear hK K)))
   refine jZ9 ?_;refine jZ1 (by kernel_rfl) (fun w5 hg5=>?_);have hb5:=jZs hg5.out;refine jZq (by kernel_rfl) ?_;refine kZ0.thn ?_;clear hg5;replace HB:=hD (HB.out.trans (hb5.mono HB.out.size));clear hb5 y0 y1;go_wp2
   go_roundw
   case rel=>exact ⟨k+1,by go_num,HB.out⟩
   case measure=>simp [intOf];omega
  ·have hd:decide ((k:Int)+1<(L.length:Int))=false:=decide_eq_false (by omega);have hd2:decide (((k+1:Nat):Int)<(L.length:Int))=false:=decide_eq_false (by omega);clear hB;go_wp2;go_ret;exact ⟨rfl,HB.out⟩
end Go.Proofs.YtfnpdlnepjhljaaGreat
