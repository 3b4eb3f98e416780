import Derived.Test.YtfnpdlnepjhljaaGreatQH05
import Derived.Laws.CopyOwn
set_option linter.unusedVariables false
set_option linter.unusedSimpArgs false
set_option maxRecDepth 100000
set_option maxHeartbeats 16000000
namespace Go.Proofs.YtfnpdlnepjhljaaGreat
open Go.RowKit
attribute [local go_sem] kZb kZp kZg
def acM (c:Ce):Sp:=⟨c.co,c.mc,c.cw+2*c.px⟩
def dnM (c:Ce):Sp:=⟨c.ro,c.mr,c.ch+2*c.py⟩
def smW (c:Ce):Prop:=(0≤c.cw∧c.cw≤1000000000000)∧(0≤c.ch∧c.ch≤1000000000000)∧(0≤c.px∧c.px≤10)∧(0≤c.py∧c.py≤10)
theorem across_e (p:Ce) (w:World) (h:smW p):Calls Tryz.prog 202 #[.agg #[.int .i64 p.co,.int .i64 p.ro,.int .i64 p.mc,.int .i64 p.mr,.int .i64 p.cw,.int .i64 p.ch,.int .i64 p.sk,.int .i64 p.px,.int .i64 p.py]] w fun e w'=>e=.returned (.agg #[.int .i64 p.co,.int .i64 p.mc,.int .i64 (p.cw+2*p.px)])∧Below w.heap.size w w':=by
 obtain ⟨⟨b1,b2⟩,⟨b3,b4⟩,⟨b5,b6⟩,⟨b7,b8⟩⟩:=h
 go_enter Tryz.func202,Tryz.ntmps202
 go_wp2
 exact bodyPost_ret (v:=.agg #[.int .i64 p.co,.int .i64 p.mc,.int .i64 (p.cw+2*p.px)]) (by simp only [results,Tryz.results202];go_simp) rfl ⟨rfl,(by repeat (first | with_reducible exact Below.refl _ _ | with_reducible assumption | with_reducible refine jZd ?_|(with_reducible refine bset ?_ ?_;rotate_left;((try dsimp only);omega)) | refine jZa ?_ (by assumption) | with_reducible refine Below.drew ?_))⟩
theorem across_v (p:Ce) (w:World) (h:smW p):Calls Tryz.prog 202 #[.agg #[.int .i64 p.co,.int .i64 p.ro,.int .i64 p.mc,.int .i64 p.mr,.int .i64 p.cw,.int .i64 p.ch,.int .i64 p.sk,.int .i64 p.px,.int .i64 p.py]] w fun e w'=>e=.returned (.agg #[.int .i64 (acM p).sa,.int .i64 (acM p).many,.int .i64 (acM p).need])∧Below w.heap.size w w':=across_e p w h
theorem vZy (A:Option Addr) (c:Nat) (L:List Ce) (w:World) (h:CeV w A L) (hL:L.length≤1048576) (hsm:∀ p∈L,smW p) :
  Calls Tryz.prog 212 #[.slice A L.length c,.func (.func 202) #[] #[]] w fun e w'=>e=.returned (.slice (some ⟨w.heap.size,0,none⟩) L.length L.length)∧SpB w' w.heap.size (L.map acM)∧Below w.heap.size w w':=by
 obtain ⟨f,hf,hmk0⟩:=madeSp
 have hmk:∀ w:World,(Instr.makeSlice 173 (.int .i64 (L.length:Int)) (.int .i64 (L.length:Int))).run Tryz.prog w=.ok (.slice (some ⟨w.heap.size,0,none⟩) L.length L.length) (w.alloc (.cells (f L.length) 191)):=fun w=>hmk0 L.length w hL
 have HSM:=hD hsm
 go_enter Tryz.func212,Tryz.ntmps212
 go_wp2_with fail
 have HWW:Hid (∃ cs:Array Value,(w.alloc (.cells (f L.length) 191)).heap[w.heap.size]?=some (.cells cs 191 (0,0))∧cs.size=L.length*3∧∀ i p,i<0→(L.map acM)[i]?=some p→InS cs (i*3) (pZ4 p)):=hD ⟨_,newS _ _,hf _,fun i p hi=>absurd hi (by omega)⟩;clear hmk hmk0 hf hsm
 go_loopw [13] (fun i wr=>∃ k:Nat,k≤L.length∧i=.int .i64 k∧(∃ cs:Array Value,wr.heap[w.heap.size]?=some (.cells cs 191 (0,0))∧cs.size=L.length*3∧∀ i p,i<k→(L.map acM)[i]?=some p→InS cs (i*3) (pZ4 p))∧Below w.heap.size w wr) (fun i _=>L.length-(intOf i).toNat)
 case atStart=>exact ⟨0,by omega,rfl,HWW.out,jZd (Below.refl _ _)⟩
 case round =>
  obtain ⟨k,hk,rfl,⟨cs,hh,hs,hc⟩,hB⟩:=hrel;clear HWW
  by_cases hlt:k<L.length
  ·have hd:decide ((k:Int)<(L.length:Int))=true:=by simpa using hlt
   obtain ⟨b,off,rfl,hb,hp⟩:=(h.keep hB).cells (by omega);have hget:L[k]?=some L[k]:=List.getElem?_eq_getElem hlt;obtain ⟨c0,c1,c2,c3,c4,c5,c6,c7,c8⟩:=hp k _ hget;have hsk:smW L[k]:=HSM.out _ (List.getElem_mem hlt);generalize hx:L[k]=p at *;have HG:=hD (show (L.map acM)[k]?=some (acM p) by rw [List.getElem?_map,hget];rfl);have HH:=hD hh;have HS:=hD hs;have HC:=hD hc;have HBB:=hD hB;have HK:=hD hsk
   clear hget hx hh hs hc hB hp hsk
   go_wp2_with fail
   refine (across_v p _ HK.out).mono ?_;rintro e w1 ⟨rfl,hb1⟩;have hlg:w.heap.size<wr.heap.size:=ltS HH.out;have hb01:=jZa (jZd (Below.refl wr.heap.size wr)) hb1;replace HH:=hD ((hb01.block _ hlg).trans HH.out);replace HBB:=hD (HBB.out.trans (hb01.mono HBB.out.size));clear hb1 hb01 c0 c1 c2 c3 c4 c5 c6 c7 c8 hlg
   have hsz:k*3+3≤cs.size:=by rw [HS.out];omega
   obtain ⟨y0,d0⟩:=pZz HH.out (i:=k*3) (by omega);obtain ⟨y1,d1⟩:=pZz HH.out (i:=k*3+1) (by omega);obtain ⟨y2,d2⟩:=pZz HH.out (i:=k*3+2) (by omega);have f0:=jZm HH.out (k*3);have f1:=jZm HH.out (k*3+1);have f2:=jZm HH.out (k*3+2);have E1:=hD (putSp HH.out (k*3) (acM p));have E2:=hD (putSpb HBB.out (Nat.le_refl _) (k*3) (acM p));go_wp2
   go_roundw
   case rel=>exact ⟨k+1,by omega,by go_num,⟨_,E1.out,(pZ6 _ _ _).trans HS.out,fun i q hi hq=>by
    by_cases e:i=k
    ·subst e
     obtain rfl:(acM p)=q:=by have:=HG.out;rw [this] at hq;exact Option.some.inj hq
     exact InS.write (by simp only [pZ4,List.length_cons,List.length_nil];omega)
    ·exact (HC.out i q (by omega) hq).keepS (.inl (by simp only [pZ4,List.length_cons,List.length_nil];omega))⟩,E2.out⟩
   case measure=>simp [intOf];omega
  ·have hd:decide ((k:Int)<(L.length:Int))=false:=decide_eq_false (by omega)
   obtain rfl:k=L.length:=by omega
   have HR:=hD (show SpB wr w.heap.size (L.map acM) from ⟨cs,hh,by rw [List.length_map];exact hs,fun i p hp=>hc i p (by have:=(List.getElem?_eq_some_iff.1 hp).1;rwa [List.length_map] at this) hp⟩);have HBB:=hD hB;clear hh hs hc hB;go_wp2;go_ret;exact ⟨rfl,HR.out,HBB.out⟩
theorem down_e (p:Ce) (w:World) (h:smW p):Calls Tryz.prog 213 #[.agg #[.int .i64 p.co,.int .i64 p.ro,.int .i64 p.mc,.int .i64 p.mr,.int .i64 p.cw,.int .i64 p.ch,.int .i64 p.sk,.int .i64 p.px,.int .i64 p.py]] w fun e w'=>e=.returned (.agg #[.int .i64 p.ro,.int .i64 p.mr,.int .i64 (p.ch+2*p.py)])∧Below w.heap.size w w':=by
 obtain ⟨⟨b1,b2⟩,⟨b3,b4⟩,⟨b5,b6⟩,⟨b7,b8⟩⟩:=h
 go_enter Tryz.func213,Tryz.ntmps213
 go_wp2
 exact bodyPost_ret (v:=.agg #[.int .i64 p.ro,.int .i64 p.mr,.int .i64 (p.ch+2*p.py)]) (by simp only [results,Tryz.results213];go_simp) rfl ⟨rfl,(by repeat (first | with_reducible exact Below.refl _ _ | with_reducible assumption | with_reducible refine jZd ?_|(with_reducible refine bset ?_ ?_;rotate_left;((try dsimp only);omega)) | refine jZa ?_ (by assumption) | with_reducible refine Below.drew ?_))⟩
theorem down_v (p:Ce) (w:World) (h:smW p):Calls Tryz.prog 213 #[.agg #[.int .i64 p.co,.int .i64 p.ro,.int .i64 p.mc,.int .i64 p.mr,.int .i64 p.cw,.int .i64 p.ch,.int .i64 p.sk,.int .i64 p.px,.int .i64 p.py]] w fun e w'=>e=.returned (.agg #[.int .i64 (dnM p).sa,.int .i64 (dnM p).many,.int .i64 (dnM p).need])∧Below w.heap.size w w':=down_e p w h
theorem cZ4 (A:Option Addr) (c:Nat) (L:List Ce) (w:World) (h:CeV w A L) (hL:L.length≤1048576) (hsm:∀ p∈L,smW p) :
  Calls Tryz.prog 212 #[.slice A L.length c,.func (.func 213) #[] #[]] w fun e w'=>e=.returned (.slice (some ⟨w.heap.size,0,none⟩) L.length L.length)∧SpB w' w.heap.size (L.map dnM)∧Below w.heap.size w w':=by
 obtain ⟨f,hf,hmk0⟩:=madeSp
 have hmk:∀ w:World,(Instr.makeSlice 173 (.int .i64 (L.length:Int)) (.int .i64 (L.length:Int))).run Tryz.prog w=.ok (.slice (some ⟨w.heap.size,0,none⟩) L.length L.length) (w.alloc (.cells (f L.length) 191)):=fun w=>hmk0 L.length w hL
 have HSM:=hD hsm
 go_enter Tryz.func212,Tryz.ntmps212
 go_wp2_with fail
 have HWW:Hid (∃ cs:Array Value,(w.alloc (.cells (f L.length) 191)).heap[w.heap.size]?=some (.cells cs 191 (0,0))∧cs.size=L.length*3∧∀ i p,i<0→(L.map dnM)[i]?=some p→InS cs (i*3) (pZ4 p)):=hD ⟨_,newS _ _,hf _,fun i p hi=>absurd hi (by omega)⟩;clear hmk hmk0 hf hsm
 go_loopw [13] (fun i wr=>∃ k:Nat,k≤L.length∧i=.int .i64 k∧(∃ cs:Array Value,wr.heap[w.heap.size]?=some (.cells cs 191 (0,0))∧cs.size=L.length*3∧∀ i p,i<k→(L.map dnM)[i]?=some p→InS cs (i*3) (pZ4 p))∧Below w.heap.size w wr) (fun i _=>L.length-(intOf i).toNat)
 case atStart=>exact ⟨0,by omega,rfl,HWW.out,jZd (Below.refl _ _)⟩
 case round =>
  obtain ⟨k,hk,rfl,⟨cs,hh,hs,hc⟩,hB⟩:=hrel;clear HWW
  by_cases hlt:k<L.length
  ·have hd:decide ((k:Int)<(L.length:Int))=true:=by simpa using hlt
   obtain ⟨b,off,rfl,hb,hp⟩:=(h.keep hB).cells (by omega);have hget:L[k]?=some L[k]:=List.getElem?_eq_getElem hlt;obtain ⟨c0,c1,c2,c3,c4,c5,c6,c7,c8⟩:=hp k _ hget;have hsk:smW L[k]:=HSM.out _ (List.getElem_mem hlt);generalize hx:L[k]=p at *;have HG:=hD (show (L.map dnM)[k]?=some (dnM p) by rw [List.getElem?_map,hget];rfl);have HH:=hD hh;have HS:=hD hs;have HC:=hD hc;have HBB:=hD hB;have HK:=hD hsk
   clear hget hx hh hs hc hB hp hsk
   go_wp2_with fail
   refine (down_v p _ HK.out).mono ?_;rintro e w1 ⟨rfl,hb1⟩;have hlg:w.heap.size<wr.heap.size:=ltS HH.out;have hb01:=jZa (jZd (Below.refl wr.heap.size wr)) hb1;replace HH:=hD ((hb01.block _ hlg).trans HH.out);replace HBB:=hD (HBB.out.trans (hb01.mono HBB.out.size));clear hb1 hb01 c0 c1 c2 c3 c4 c5 c6 c7 c8 hlg
   have hsz:k*3+3≤cs.size:=by rw [HS.out];omega
   obtain ⟨y0,d0⟩:=pZz HH.out (i:=k*3) (by omega);obtain ⟨y1,d1⟩:=pZz HH.out (i:=k*3+1) (by omega);obtain ⟨y2,d2⟩:=pZz HH.out (i:=k*3+2) (by omega);have f0:=jZm HH.out (k*3);have f1:=jZm HH.out (k*3+1);have f2:=jZm HH.out (k*3+2);have E1:=hD (putSp HH.out (k*3) (dnM p));have E2:=hD (putSpb HBB.out (Nat.le_refl _) (k*3) (dnM p));go_wp2
   go_roundw
   case rel=>exact ⟨k+1,by omega,by go_num,⟨_,E1.out,(pZ6 _ _ _).trans HS.out,fun i q hi hq=>by
    by_cases e:i=k
    ·subst e
     obtain rfl:(dnM p)=q:=by have:=HG.out;rw [this] at hq;exact Option.some.inj hq
     exact InS.write (by simp only [pZ4,List.length_cons,List.length_nil];omega)
    ·exact (HC.out i q (by omega) hq).keepS (.inl (by simp only [pZ4,List.length_cons,List.length_nil];omega))⟩,E2.out⟩
   case measure=>simp [intOf];omega
  ·have hd:decide ((k:Int)<(L.length:Int))=false:=decide_eq_false (by omega)
   obtain rfl:k=L.length:=by omega
   have HR:=hD (show SpB wr w.heap.size (L.map dnM) from ⟨cs,hh,by rw [List.length_map];exact hs,fun i p hp=>hc i p (by have:=(List.getElem?_eq_some_iff.1 hp).1;rwa [List.length_map] at this) hp⟩);have HBB:=hD hB;clear hh hs hc hB;go_wp2;go_ret;exact ⟨rfl,HR.out,HBB.out⟩
section
attribute [local go_sem 5000] kZk kZj
theorem eZh (A:Option Addr) (c n:Nat) (L:List Int) (w:World) (h:NV w A L) (hn:n=L.length) (hL:n≤1048576) (hM:Smal 1000000000000000 L) :
  Calls Tryz.prog 151 #[.slice A n c] w fun e w'=>e=.returned (.int .i64 (sumI L))∧Below w.heap.size w w':=by
 refine (eZ5 A c n L w h hn hL hM).mono ?_;rintro e w1 ⟨rfl,rfl⟩;exact ⟨rfl,Below.refl _ _⟩
theorem step_none {ws O:List Int} {s:Sp} (hw:wsOK (segI ws s.sa.toNat s.many.toNat)) (h:s.need-sumI (segI O s.sa.toNat s.many.toNat)≤0):vZj ws O s=O:=by
 unfold vZj
 have hm:mx (s.need-sumI (segI O s.sa.toNat s.many.toNat)) 0=0:=by have:=kZc (s.need-sumI (segI O s.sa.toNat s.many.toNat)) 0;omega
 rw [hm];exact addAt_zero (gZ4 hw)
theorem bZp (A:Option Addr) (c m:Nat) (n:Int) (ws:List Int) (w:World) (h:NV w A ws) (hm:m=ws.length) (hw:wsOK ws) (hn:0≤n) (hn2:n≤100000000000000) :
  Calls Tryz.prog 176 #[.int .i64 n,.slice A m c] w fun e w'=>e=.returned (.slice (some ⟨w.heap.size,0,none⟩) m m)∧IB w' w.heap.size (jZt n ws)∧Below w.heap.size w w':=by subst hm;exact sspread_v A c n ws w h hw hn hn2
theorem seg_map (L:List Ln) (a m:Nat):((L.drop a).take m).map Ln.wt=segI (L.map Ln.wt) a m:=by simp [segI,List.map_take,List.map_drop]
theorem bZa (A:Option Addr) (c:Nat) (L:List Ln) (A':Option Addr) (c':Nat) (S:List Sp) (w:World) (h:LnV w A L) (hL:kZd L=true) (h':SpV w A' S) (hS:pZ7 L.length S) (hc:L.length≤c) :
  Calls Tryz.prog 152 #[.slice A L.length c,.slice A' S.length c'] w fun e w'=>(∃ g cap,e=.returned (.slice (some ⟨g,0,none⟩) L.length cap)∧w.heap.size≤g∧OB w' g cap (kZl L S))∧Below w.heap.size w w':=by
 obtain ⟨hl1,hl5⟩:=kZz hL;obtain ⟨hs8,hsa⟩:=id hS;have hww:=(tZw hL).2;have HL:=hD hL;have HS:=hD hS;have HSA:=hD hsa;have HWW:=hD hww;obtain ⟨ti,tz,ti1,ti2,ti3,ti4,ti5⟩:=rZx;obtain ⟨bl,offl,rfl,hbl,hpl⟩:=h.cells (by omega);have HPL:=hD hpl;clear hpl;clear hL hS hsa hww
 go_enter Tryz.func152,Tryz.ntmps152
 go_wp2_with fail
 have ho0:(w.alloc (.cells #[] 3 (0,0))).ownsRow w.heap.size 3 1 (.slice (some ⟨w.heap.size,0,none⟩) 0 0) 0 (kZt []):=World.ownsRow_lit (base:=w.heap.size) (e:=3) (size:=1) w #[] 0 (Nat.le_refl _) (by decide) rfl;have HO:=hD ho0;have HB:=hD (jZd (o:=(.cells #[] 3 (0,0))) (Below.refl w.heap.size w));clear ho0
 go_loopw [5,6] (fun out i wr=>∃ k:Nat,k≤L.length∧i=.int .i64 k∧wr.ownsRow w.heap.size 3 1 out k (kZt ((L.map Ln.mi).take k))∧Below w.heap.size w wr) (fun _ i _=>L.length-(intOf i).toNat)
 case atStart=>exact ⟨0,by omega,rfl,HO.out,HB.out⟩
 case round =>
  obtain ⟨k,hk,rfl,ho,hB⟩:=hrel;clear HO HB
  by_cases hlt:k<L.length
  ·have hd:decide ((k:Int)<(L.length:Int))=true:=by simpa using hlt
   obtain ⟨b,off,eA,hb,hp⟩:=(h.keep hB).cells (by omega)
   obtain ⟨rfl,rfl⟩:bl=b∧offl=off:=by injection eA with eA;injection eA with e1 e2;exact ⟨e1,e2⟩
   have hget:L[k]?=some L[k]:=List.getElem?_eq_getElem hlt;obtain ⟨c0,c1⟩:=hp k _ hget;have hts:=cZ9 (f:=Ln.mi) hget;generalize L[k]=x at *;have hob:=ho.lt;have hw3:w.heap.size≤wr.heap.size:=hB.size;have HO:=hD ho;have HB:=hD hB;have HTS:=hD hts;clear ho hB hts hp hget
   go_wp2_with (at_builtin;refine wpList_append_own _ rfl _ _ 47 rfl w.heap.size 3 ti tz 1 8 Tryz.underlying47 ti1 ti2 ti3 ti4 ti5 (by decide) _ _ _ rfl (HO.out.alloc _) ⟨wr.heap.size,0,none⟩ 1 1 [.int .i64 x.mi] rfl rfl (newW _ _ _) (by simp [Value.oneCell']) (by simp only [maxLen];omega) (by omega) (by simp;omega) ?_)
   intro v5 w5 how5 hgr5 _;rw [rZn,<- HTS.out] at how5;replace HB:=hD (qZr HB.out hgr5 hob (Nat.le_refl _) (Nat.le_refl _));replace HO:=hD how5;clear how5 hgr5 hob c0 c1;go_wp2
   go_roundw
   case rel=>exact ⟨k+1,by omega,by go_num,by simpa using HO.out,HB.out⟩
   case measure=>simp [intOf];omega
  ·have hd:decide ((k:Int)<(L.length:Int))=false:=decide_eq_false (by omega)
   obtain rfl:k=L.length:=by omega
   have he:(L.map Ln.mi).take L.length=L.map Ln.mi:=List.take_of_length_le (by simp);rw [he] at ho;have HB:=hD hB
   rcases vZk ho (by simp) with ⟨rfl,hM⟩ | ⟨g,cap,rfl,hbg,hO⟩
   ·have hL0:L.length=0:=by simpa using congrArg List.length hM
    omega
   have HO:=hD hO
   have hcap:L.length≤cap:=by have:=hO.1;simpa using this
   clear ho hB hO he hd hk
   go_wp2_with fail
   go_loopw [7] (fun i wr=>∃ k:Nat,k≤L.length∧i=.int .i64 ((k:Int)+1)∧OB wr g cap (reqN (L.map Ln.wt) S (L.map Ln.mi) k)∧Below w.heap.size w wr) (fun i _=>L.length+1-(intOf i).toNat)
   case atStart=>exact ⟨0,by omega,rfl,HO.out,HB.out⟩
   case round =>
    obtain ⟨k,hk,rfl,hO,hBr⟩:=hrel;clear HO HB
    by_cases hlt:k<L.length
    ·have hd:decide ((k:Int)+1≤(L.length:Int))=true:=by simp;omega
     have HO:=hD hO;have HB:=hD hBr;clear hO hBr
     go_wp2_with fail
     go_loopw [8] (fun i wr=>∃ j:Nat,j≤S.length∧i=.int .i64 j∧OB wr g cap (rZc (L.map Ln.wt) ((k:Int)+1) (S.take j) (reqN (L.map Ln.wt) S (L.map Ln.mi) k))∧Below w.heap.size w wr) (fun i _=>S.length-(intOf i).toNat)
     case atStart=>exact ⟨0,by omega,rfl,HO.out,HB.out⟩
     case round =>
      obtain ⟨j,hj,rfl,hO,hBr⟩:=hrel;clear HO HB
      by_cases hjl:j<S.length
      ·have hd2:decide ((j:Int)<(S.length:Int))=true:=by simpa using hjl
       obtain ⟨b',off',rfl,hb',hp⟩:=(h'.keep hBr).cells (by omega);have hget:S[j]?=some S[j]:=List.getElem?_eq_getElem hjl;obtain ⟨c0,c1,c2⟩:=hp j _ hget;have hsp:=HSA.out _ (List.mem_of_getElem? hget);have hro:=tZ3 (ws:=L.map Ln.wt) (m:=(k:Int)+1) (O:=reqN (L.map Ln.wt) S (L.map Ln.mi) k) hget;obtain ⟨a,m,e1,e2,hm1,ham,hn0,hn50⟩:=id hsp;obtain ⟨hol,hob⟩:=at_bd HL.out HS.out hk hj
       generalize S[j]=s at *;obtain ⟨sa,many,need⟩:=s
       dsimp only at e1 e2 hn0 hn50 c0 c1 c2
       subst e1 e2;generalize rZc (L.map Ln.wt) ((k:Int)+1) (S.take j) (reqN (L.map Ln.wt) S (L.map Ln.mi) k)=O at *;have HO:=hD hO;have HB:=hD hBr;have HOB:=hD hob;have HOL:=hD hol;clear hO hBr hp hget hsp hob hol
       by_cases hmk:(m:Int)=(k:Int)+1
       ·have hmn:m=k+1:=by omega
        subst hmn;have HRO:=hD hro;clear hro
        have hal:¬ cap=a:=by omega
        have hal2:¬ c=a:=by omega
        have hq1:0≤(a:Int)+((k:Int)+1):=by omega
        have hq2:(a:Int)+((k:Int)+1)≤(cap:Int):=by omega
        have hq2':(a:Int)+((k:Int)+1)≤(c:Int):=by omega
        have hq3:((a:Int)+((k:Int)+1)).toNat=a+(k+1):=by omega
        have hq4:a≤a+(k+1):=by omega
        have hq5:a+(k+1)-a=k+1:=by omega
        have hwr:IntKind.i64.wrap ((a:Int)+((k:Int)+1))=(a:Int)+((k:Int)+1):=IntWalk.i64_in _ (by omega);obtain ⟨hm0,hm5,hsm⟩:=seg_sum HOB.out (a:=a) (m:=k+1) (by rw [HOL.out];exact ham) (by rw [HOL.out];exact hl5);have HSM:=hD hsm;have HSL:=hD (qZw (O:=O) (a:=a) (m:=k+1) (by rw [HOL.out];exact ham)).symm;clear hsm
        have hz:(((k+1:Nat):Int) == (k:Int)+1)=true:=by simp
        go_wp2_with fail
        refine jZg 13 1 (·<13) (by kernel_rfl) (by kernel_rfl) rfl ?_
        iterate 13 (refine jZ3 (fun K hK=>?_);first|(refine kZr rfl ?_;go_simp;refine hK _ ?_;clear hK K)|(apply Exists.intro;refine ⟨.inl ⟨rfl,fun w' hw'=>?_⟩,?_⟩;(focus ((obtain ⟨hc,hf⟩:=kZi hw'.out);(have hcS:=kZq hw'.out);go_simp <;> first | rfl|(go_at_call 151;exact eZh _ _ (k+1) (segI O a (k+1)) _ ((HO.out.keep (jZa (jZd (Below.refl _ _)) (jZs hw'.out))).seg a (k+1)) HSL.out (by omega) HSM.out)));(go_simp;refine hK _ ?_;clear hK K)))
        refine jZ9 ?_;refine jZ1 (by kernel_rfl) (fun w3 hg3=>?_);have hb3:=jZs hg3.out;obtain ⟨hc3,hf3⟩:=kZi hb3;refine jZn (i:=13) (by kernel_rfl) rfl rfl ?_;go_simp;refine jZq (by kernel_rfl) ?_;refine kZ0.thn ?_;clear hc3 hf3;clear hg3
        have hx:w3.heap[wr.heap.size]?=some (.cells #[.int .i64 (a:Int),.int .i64 ((k:Int)+1),.int .i64 need] 191 (0,0)):=(hb3.block _ (by simp)).trans (newS _ _);have hgb:g<wr.heap.size:=HO.out.lt;have HO3:=hD (HO.out.keep (jZa (jZd (Below.refl _ _)) hb3));have HB3:=hD (jZa (jZd HB.out) hb3);have hxl:=ltS hx
        obtain ⟨x0,x1,x2⟩:w3.cell? ⟨wr.heap.size,0,none⟩=some (.int .i64 (a:Int))∧w3.cell? ⟨wr.heap.size,1,none⟩=some (.int .i64 ((k:Int)+1))∧w3.cell? ⟨wr.heap.size,2,none⟩=some (.int .i64 need):=⟨gZ0 hx 0,gZ0 hx 1,gZ0 hx 2⟩
        have HX:=hD hx
        obtain ⟨q,hqe⟩:∃ q,sumI (segI O a (k+1))=q:=⟨_,rfl⟩
        rw [hqe] at hm0 hm5;rw [hqe];have HQ:=hD hqe;have hqw:IntKind.i64.wrap (need-q)=need-q:=IntWalk.i64_in _ (by omega);have hsok:=seg_ok (a:=a) (m:=k+1) HWW.out (by omega) (by rw [List.length_map];exact ham);have HSK:=hD hsok;clear HO HB hb3 hx hqe c0 c1 c2 hsok;generalize wr.heap.size=bx at *
        by_cases hqn:need-q≤0
        ·have hd3:decide (need-q≤0)=true:=by simpa using hqn
         have hst:vZj (L.map Ln.wt) O ⟨(a:Int),((k+1:Nat):Int),need⟩=O:=step_none (by simpa using HSK.out) (by show need-sumI (segI O a (k+1))≤0;rw [HQ.out];exact hqn);have HST:=hD hst;clear hst;go_wp2
         go_roundw
         case rel=>exact ⟨j+1,by omega,by go_num,by rw [HRO.out,if_pos (by simp),HST.out];exact HO3.out,HB3.out⟩
         case measure=>simp [intOf];omega
        ·have hd3:decide (need-q≤0)=false:=by simpa using hqn
         have hl2:k+1=((L.drop a).take (k+1)).length:=by rw [List.length_take,List.length_drop];omega
         have HL2:=hD hl2;clear hl2
         go_wp2_with fail
         refine (tZ9 _ _ (k+1) ((L.drop a).take (k+1)) _ ((LnV.sub hbl HPL.out a (k+1)).keep (HB3.out)) HL2.out (by rw [<- HL2.out];omega)).mono ?_;rintro e w4 ⟨⟨A2,c2,rfl,hn4⟩,hb4⟩;rw [seg_map] at hn4;have HN4:=hD hn4;have HO4:=hD (HO3.out.keep hb4);have HB4:=hD (jZa HB3.out hb4);have HX4:=hD ((hb4.block _ hxl).trans HX.out);have hsz4:=hb4.size;clear hn4 hb4 HO3 HB3 HX x0 x1 x2
         go_wp2_with fail
         refine (bZp A2 c2 (k+1) (need-q) (segI (L.map Ln.wt) a (k+1)) _ HN4.out (qZw (by rw [List.length_map];exact ham)).symm HSK.out (by omega) (by omega)).mono ?_;rintro e w5 ⟨rfl,hi5,hb5⟩;have HP:=hD hi5;have HO5:=hD (HO4.out.keep hb5);have HB5:=hD (jZa HB4.out hb5);have HX5:=hD ((hb5.block _ (Nat.lt_of_lt_of_le hxl hsz4)).trans HX4.out);have hgp:g<w4.heap.size:=HO4.out.lt
         have hxp:bx<w4.heap.size:=Nat.lt_of_lt_of_le hxl hsz4;have HPB:=hD (rZ8 (n:=need-q) (by omega) HSK.out)
         have hpl:(jZt (need-q) (segI (L.map Ln.wt) a (k+1))).length=k+1:=by rw [kZ5,qZw (by rw [List.length_map];exact ham)]
         have hst:vZj (L.map Ln.wt) O ⟨(a:Int),((k+1:Nat):Int),need⟩=qZg O a (jZt (need-q) (segI (L.map Ln.wt) a (k+1))):=by
          unfold vZj
          have hm:mx (need-sumI (segI O a (k+1))) 0=need-q:=by rw [HQ.out];have:=kZc (need-q) 0;omega
          show qZg O a (jZt (mx (need-sumI (segI O a (k+1))) 0) (segI (L.map Ln.wt) a (k+1)))=_
          rw [hm]
         have HST:=hD hst;clear hi5 hb5 HO4 HB4 HX4 HN4 hst;generalize w4.heap.size=gp at *;generalize jZt (need-q) (segI (L.map Ln.wt) a (k+1))=P at *;have HPL2:=hD hpl;clear hpl
         go_wp2_with fail
         go_loopw [12] (fun i wr'=>∃ i':Nat,i'≤k+1∧i=.int .i64 i'∧OB wr' g cap (qZg O a (P.take i'))∧w5.grownBy wr' (some g)) (fun i _=>k+1-(intOf i).toNat)
         case atStart=>exact ⟨0,by omega,rfl,by rw [List.take_zero,bZq];exact HO5.out,tZy _ _⟩
         case round =>
          obtain ⟨i,hi,rfl,hOr,hgr⟩:=hrel;clear HO5
          by_cases hil:i<k+1
          ·have hd4:decide ((i:Int)<(k:Int)+1)=true:=by simp;omega
           have hki:i<P.length:=by have:=HPL2.out;omega
           have hgq:P[i]?=some P[i]:=List.getElem?_eq_getElem hki;have hpb:=HPB.out _ (List.getElem_mem hki)
           have hko:a+i<O.length:=by have:=HOL.out;omega
           have hgo:O[a+i]?=some O[a+i]:=List.getElem?_eq_getElem hko;have hob:=HOB.out _ (List.getElem_mem hko)
           have hal3:a+i<(qZg O a (P.take i)).length:=by rw [uZ6];exact hko
           generalize P[i]=p at *;generalize O[a+i]=o at *;obtain ⟨hp0,hp1⟩:=hpb;obtain ⟨ho0,ho1⟩:=hob;have hxw:=ltS HX5.out;have p0:=(HP.out.but hgr (by omega)).cell hgq;have d0:=hOr.cell (cZh hgo (P:=P.take i) (by rw [List.length_take];omega));have hxr:=(hgr.block bx hxw (fun e=>by have:=Option.some.inj e;omega)).trans HX5.out;have x0:=gZ0 hxr 0;have hs1:=ltS hxr
           have hs2:=(HP.out.but hgr (by omega)).lt;have hs3:=hOr.lt
           have hr1:0≤(a:Int)+(i:Int):=by omega
           have hr2:(a:Int)+(i:Int)<(L.length:Int):=by omega
           have hri:(i:Int)<(k:Int)+1:=by omega
           have hr3:((a:Int)+(i:Int)).toNat=a+i:=by omega
           have hwr2:IntKind.i64.wrap ((a:Int)+(i:Int))=(a:Int)+(i:Int):=IntWalk.i64_in _ (by omega);have hwr3:IntKind.i64.wrap (o+p)=o+p:=IntWalk.i64_in _ (by omega);have HO6:=hD hOr;have HG6:=hD hgr;have HAS:=hD (vZn hgo hgq);clear hOr hgr hxr hgo hgq hwr
           go_wp2_with fail
           refine jZg 18 1 (·<18) (by kernel_rfl) (by kernel_rfl) rfl ?_
           iterate 18 (refine jZ3 (fun K hK=>?_);first|(refine kZr rfl ?_;go_simp;refine hK _ ?_;clear hK K)|(apply Exists.intro;refine ⟨.inl ⟨rfl,fun w' hw'=>?_⟩,?_⟩;(focus ((obtain ⟨hc,hf⟩:=kZi hw'.out);(have hcS:=kZq hw'.out);go_simp <;> rfl));(go_simp;refine hK _ ?_;clear hK K)))
           refine jZ9 ?_;refine jZ1 (by kernel_rfl) (fun w7 hg7=>?_);have hb7:=jZs hg7.out;have HO7:=hD (HO6.out.keep hb7);have HB7:=hb7;have c7:=(hb7.cell (p:=⟨g,a+i,none⟩) hs3).trans d0;have f7:=HO7.out.frozen (a+i);have hg7':=qZa HG6.out hb7;have HO8:=HO7.out.set (a+i) (o+p) hal3;rw [HAS.out] at HO8;have HO8:=hD HO8;have HG8:=hD (tZ6 hg7' (a+i) (.int .i64 (o+p)))
           clear HB7 hg7';refine jZn (i:=18) (by kernel_rfl) rfl rfl ?_;go_simp;refine jZq (by kernel_rfl) ?_;refine sZs ?_;clear hb7 hg7;go_wp2
           go_roundw
           case rel=>exact ⟨i+1,by omega,by go_num,HO8.out,HG8.out⟩
           case measure=>simp [intOf];omega
          ·have hd4:decide ((i:Int)<(k:Int)+1)=false:=by simp;omega
           have hke:P.take i=P:=List.take_of_length_le (by have:=HPL2.out;omega);rw [hke,<- HST.out] at hOr;have HO6:=hD hOr;have HB6:=hD (pZk HB5.out hgr hbg HB5.out.size);clear hOr hgr hke;go_wp2
           go_roundw
           case rel=>exact ⟨j+1,by omega,by go_num,by rw [HRO.out,if_pos (by simp)];exact HO6.out,HB6.out⟩
           case measure=>simp [intOf];omega
       ·have hz:((m:Int) == (k:Int)+1)=false:=by simpa using hmk
        rw [if_neg hmk] at hro;have HRO:=hD hro;have HB:=hD (jZd (o:=(.cells #[.int .i64 (a:Int),.int .i64 (m:Int),.int .i64 need] 191 (0,0))) HB.out);have HO:=hD (HO.out.keep (jZd (o:=(.cells #[.int .i64 (a:Int),.int .i64 (m:Int),.int .i64 need] 191 (0,0))) (Below.refl _ _)));clear hro;go_wp2
        go_roundw
        case rel=>exact ⟨j+1,by omega,by go_num,by rw [HRO.out];exact HO.out,HB.out⟩
        case measure=>simp [intOf];omega
      ·have hd2:decide ((j:Int)<(S.length:Int))=false:=decide_eq_false (by omega);have he:S.take j=S:=List.take_of_length_le (by omega);rw [he] at hO;have HO:=hD hO;have HB:=hD hBr;clear hO hBr he;go_wp2
       go_roundw
       case rel=>exact ⟨k+1,by omega,by go_num,HO.out,HB.out⟩
       case measure=>simp [intOf];omega
    ·have hd:decide ((k:Int)+1≤(L.length:Int))=false:=by simp;omega
     obtain rfl:k=L.length:=by omega
     have HO:=hD hO;have HB:=hD hBr;clear hO hBr;go_wp2;go_ret;exact ⟨⟨g,cap,rfl,hbg,HO.out⟩,HB.out⟩
end

def wtZ:List Ln→List Int→List Int
 | l :: L,o :: O=>(if l.mi<o then l.wt else 0) :: wtZ L O
 | _,_=>[]
def takZ:List Ln→List Int→List Int→List Int
 | l :: L,o :: O,p :: P=>(o-mn p (o-l.mi)) :: takZ L O P
 | _,O,_=>O
def tknZ:List Ln→List Int→List Int→Int
 | l :: L,o :: O,p :: P=>mn p (o-l.mi)+tknZ L O P
 | _,_,_=>0
def shrZ (L:List Ln) (n:Int) (O:List Int):List Int :=
 if h:0<n∧sumI (wtZ L O)≠0∧0<tknZ L O (jZt n (wtZ L O)) then shrZ L (n-tknZ L O (jZt n (wtZ L O))) (takZ L O (jZt n (wtZ L O))) else O
termination_by n.toNat
decreasing_by omega
theorem sZw:∀ {L:List Ln} {O:List Int},O.length=L.length→(wtZ L O).length=L.length
 | [],[],_=>rfl
 | l :: L,o :: O,h=>by simp only [wtZ,List.length_cons];rw [sZw (by simpa using h)]
 | [],o :: O,h=>by simp at h
 | l :: L,[],h=>by simp at h
theorem cZk:∀ {L:List Ln} {O:List Int} {i:Nat} {l:Ln} {o:Int},L[i]?=some l→O[i]?=some o→(wtZ L O)[i]?=some (if l.mi<o then l.wt else 0)
 | l' :: L,o' :: O,0,l,o,h,h'=>by
  simp only [List.getElem?_cons_zero,Option.some.injEq] at h h';subst h h'
  simp [wtZ]
 | l' :: L,o' :: O,i+1,l,o,h,h'=>by
  simp only [List.getElem?_cons_succ] at h h';simp only [wtZ,List.getElem?_cons_succ];exact cZk h h'
 | [],_,i,l,o,h,_=>by simp at h
 | l' :: L,[],i,l,o,_,h'=>by simp at h'
theorem takZ_len:∀ (L:List Ln) (O P:List Int),(takZ L O P).length=O.length
 | l :: L,o :: O,p :: P=>by simp only [takZ,List.length_cons,takZ_len]
 | [],O,P=>by simp [takZ]
 | l :: L,[],P=>by simp [takZ]
 | l :: L,o :: O,[]=>by simp [takZ]
theorem uZ4 (L:List Ln) (O:List Int):takZ L O []=O:=by cases L <;> cases O <;> rfl
theorem eZt (L:List Ln) (O:List Int):tknZ L O []=0:=by cases L <;> cases O <;> rfl
theorem dZ0:∀ {L:List Ln} {O P:List Int} {i:Nat} {o:Int},O[i]?=some o→P.length≤i→(takZ L O P)[i]?=some o
 | l :: L,o' :: O,p :: P,0,o,h,hp=>by simp at hp
 | l :: L,o' :: O,p :: P,i+1,o,h,hp=>by
  simp only [List.getElem?_cons_succ] at h;simp only [takZ,List.getElem?_cons_succ];exact dZ0 h (by simpa using hp)
 | [],O,P,i,o,h,_=>by simpa [takZ] using h
 | l :: L,[],P,i,o,h,_=>by simp at h
 | l :: L,o' :: O,[],i,o,h,_=>by simpa [takZ] using h
theorem bZ5:∀ {L:List Ln} {O P:List Int} {i:Nat} {l:Ln} {o p:Int},L[i]?=some l→O[i]?=some o→P[i]?=some p→(takZ L O (P.take i)).set i (o-mn p (o-l.mi))=takZ L O (P.take (i+1))
 | l' :: L,o' :: O,p' :: P,0,l,o,p,hl,ho,hp=>by
  simp only [List.getElem?_cons_zero,Option.some.injEq] at hl ho hp;subst hl ho hp
  simp [takZ,uZ4]
 | l' :: L,o' :: O,p' :: P,i+1,l,o,p,hl,ho,hp=>by
  simp only [List.getElem?_cons_succ] at hl ho hp;simp only [List.take_succ_cons,takZ,List.set_cons_succ];rw [bZ5 hl ho hp]
 | [],_,_,i,l,o,p,hl,_,_=>by simp at hl
 | _ :: _,[],_,i,l,o,p,_,ho,_=>by simp at ho
 | _ :: _,_ :: _,[],i,l,o,p,_,_,hp=>by simp at hp
theorem bZ2:∀ {L:List Ln} {O P:List Int} {i:Nat} {l:Ln} {o p:Int},L[i]?=some l→O[i]?=some o→P[i]?=some p→tknZ L O (P.take (i+1))=tknZ L O (P.take i)+mn p (o-l.mi)
 | l' :: L,o' :: O,p' :: P,0,l,o,p,hl,ho,hp=>by
  simp only [List.getElem?_cons_zero,Option.some.injEq] at hl ho hp;subst hl ho hp
  simp [tknZ,eZt]
 | l' :: L,o' :: O,p' :: P,i+1,l,o,p,hl,ho,hp=>by
  simp only [List.getElem?_cons_succ] at hl ho hp;simp only [List.take_succ_cons,tknZ]
  have:=bZ2 hl ho hp
  rw [this];omega
 | [],_,_,i,l,o,p,hl,_,_=>by simp at hl
 | _ :: _,[],_,i,l,o,p,_,ho,_=>by simp at ho
 | _ :: _,_ :: _,[],i,l,o,p,_,_,hp=>by simp at hp
def SOK:List Ln→List Int→Prop
 | l :: L,o :: O=>(l.mi≤o∧o≤100000000000000)∧SOK L O
 | [],[]=>True
 | _,_=>False
theorem SOK.len:∀ {L:List Ln} {O:List Int},SOK L O→O.length=L.length
 | [],[],_=>rfl
 | l :: L,o :: O,h=>by simp [SOK.len h.2]
 | [],o :: O,h=>by simp [SOK] at h
 | l :: L,[],h=>by simp [SOK] at h
theorem SOK.get:∀ {L:List Ln} {O:List Int} {i:Nat} {l:Ln} {o:Int},SOK L O→L[i]?=some l→O[i]?=some o→l.mi≤o∧o≤100000000000000
 | l' :: L,o' :: O,0,l,o,h,hl,ho=>by
  simp only [List.getElem?_cons_zero,Option.some.injEq] at hl ho;subst hl ho;exact h.1
 | l' :: L,o' :: O,i+1,l,o,h,hl,ho=>by
  simp only [List.getElem?_cons_succ] at hl ho;exact SOK.get h.2 hl ho
 | [],_,i,l,o,_,hl,_=>by simp at hl
 | _ :: _,[],i,l,o,_,_,ho=>by simp at ho
theorem SOK.tak:∀ {L:List Ln} {O P:List Int},SOK L O→(∀ x∈P,0≤x)→SOK L (takZ L O P)
 | l :: L,o :: O,p :: P,h,hp=>by
  have:=hp p List.mem_cons_self
  have:=jZz p (o-l.mi)
  have h1:=h.1;exact ⟨by omega,SOK.tak h.2 (fun x hx=>hp x (List.mem_cons_of_mem _ hx))⟩
 | [],[],P,h,_=>by simp [takZ,SOK]
 | l :: L,o :: O,[],h,_=>by rw [uZ4];exact h
 | [],o :: O,P,h,_=>by simp [SOK] at h
 | l :: L,[],P,h,_=>by simp [SOK] at h
theorem gZj:∀ {L:List Ln} {O P:List Int},SOK L O→(∀ x∈P,0≤x)→0≤tknZ L O P∧tknZ L O P≤sumI P
 | l :: L,o :: O,p :: P,h,hp=>by
  have h0:=hp p List.mem_cons_self
  have:=jZz p (o-l.mi)
  have h1:=h.1
  have:=gZj (P:=P) h.2 (fun x hx=>hp x (List.mem_cons_of_mem _ hx))
  simp only [tknZ,sumI];omega
 | [],[],P,h,hp=>by simp only [tknZ];exact ⟨Int.le_refl _,kZ9 hp⟩
 | l :: L,o :: O,[],h,_=>by simp [tknZ,sumI]
 | [],o :: O,P,h,_=>by simp [SOK] at h
 | l :: L,[],P,h,_=>by simp [SOK] at h
theorem tkn_pos:∀ {L:List Ln} {O P:List Int} {i:Nat} {l:Ln} {o p:Int},SOK L O→(∀ x∈P,0≤x)→L[i]?=some l→O[i]?=some o→P[i]?=some p→0<p→l.mi<o→0<tknZ L O P
 | l' :: L,o' :: O,p' :: P,0,l,o,p,h,hP,hl,ho,hp,h0,h1=>by
  simp only [List.getElem?_cons_zero,Option.some.injEq] at hl ho hp;subst hl ho hp
  have:=jZz p' (o'-l'.mi)
  have:=gZj (P:=P) h.2 (fun x hx=>hP x (List.mem_cons_of_mem _ hx))
  simp only [tknZ];omega
 | l' :: L,o' :: O,p' :: P,i+1,l,o,p,h,hP,hl,ho,hp,h0,h1=>by
  simp only [List.getElem?_cons_succ] at hl ho hp
  have:=tkn_pos h.2 (fun x hx=>hP x (List.mem_cons_of_mem _ hx)) hl ho hp h0 h1
  have:=hP p' List.mem_cons_self
  have:=jZz p' (o'-l'.mi)
  have:=h.1
  simp only [tknZ];omega
 | [],_,_,i,l,o,p,_,_,hl,_,_,_,_=>by simp at hl
 | _ :: _,[],_,i,l,o,p,_,_,_,ho,_,_,_=>by simp at ho
 | _ :: _,_ :: _,[],i,l,o,p,_,_,_,_,hp,_,_=>by simp at hp
theorem bZz:∀ {P:List Int},(∀ x∈P,0≤x)→0<sumI P→∃ (i:Nat) (p:Int),P[i]?=some p∧0<p
 | [],_,h=>by simp [sumI] at h
 | p :: P,hp,h=>by
  by_cases h0:0<p
  ·exact ⟨0,p,rfl,h0⟩
  ·have:=hp p List.mem_cons_self
   obtain ⟨i,q,h1,h2⟩:=bZz (P:=P) (fun x hx=>hp x (List.mem_cons_of_mem _ hx)) (by simp only [sumI] at h;omega);exact ⟨i+1,q,h1,h2⟩
theorem wtZ_mem:∀ {L:List Ln} {O:List Int} {x:Int},x∈wtZ L O→x=0∨∃ l∈L,x=l.wt
 | l :: L,o :: O,x,h=>by
  simp only [wtZ,List.mem_cons] at h
  rcases h with h | h
  ·split at h
   ·exact .inr ⟨l,List.mem_cons_self,h⟩
   ·exact .inl h
  ·rcases wtZ_mem h with h | ⟨l',h1,h2⟩
   ·exact .inl h
   ·exact .inr ⟨l',List.mem_cons_of_mem _ h1,h2⟩
 | [],O,x,h=>by simp [wtZ] at h
 | l :: L,[],x,h=>by simp [wtZ] at h
theorem wtZ_ok {L:List Ln} {O:List Int} (hL:kZd L=true) (h:SOK L O):wsOK (wtZ L O):=by
 have hw:=(tZw hL).2;have hl:=sZw h.len;refine ⟨fun x hx=>?_,by rw [hl];simpa using hw.2.1,by rw [hl];simpa using hw.2.2⟩
 rcases wtZ_mem hx with rfl | ⟨l,hl,rfl⟩
 ·omega
 ·exact hw.1 _ (List.mem_map_of_mem hl)
theorem bZj {L:List Ln} {O:List Int} {n:Int} (hL:kZd L=true) (h:SOK L O) (hn:0<n) (hs:sumI (wtZ L O)≠0) :
  (∀ x∈jZt n (wtZ L O),0≤x)∧0<tknZ L O (jZt n (wtZ L O))∧tknZ L O (jZt n (wtZ L O))≤n∧SOK L (takZ L O (jZt n (wtZ L O))):=by
 have hw:=wtZ_ok hL h;have hp:=uZw (n:=n) (by omega) hw;have hsum:=tZj (n:=n) (by omega) hw;have hb:=gZj h hp
 have hs0:0<sumI (wtZ L O):=by have:=hw.sum;omega
 refine ⟨hp,?_,by omega,h.tak hp⟩;obtain ⟨i,p,h1,h2⟩:=bZz hp (by omega);have hi:=(List.getElem?_eq_some_iff.1 h1).1;rw [kZ5,sZw h.len] at hi;have hl:L[i]?=some L[i]:=List.getElem?_eq_getElem hi;have ho:O[i]?=some (O[i]'(by rw [h.len];exact hi)):=List.getElem?_eq_getElem _;have hx:=cZk hl ho;obtain ⟨y,e1,_,_,e2⟩:=rZ6 (n:=n) (by omega) hw hx;rw [h1] at e1
 obtain rfl:=Option.some.inj e1;have h3:=(e2 hs0).1;refine tkn_pos h hp hl ho h1 h2 ?_
 by_cases hlo:L[i].mi<O[i]'(by rw [h.len];exact hi)
 ·exact hlo
 ·rw [if_neg hlo] at h3
  have:=h3 rfl
  omega
theorem shr_go {L:List Ln} {O:List Int} {n:Int} (hL:kZd L=true) (h:SOK L O) (hn:0<n) (hs:sumI (wtZ L O)≠0) :
  shrZ L n O=shrZ L (n-tknZ L O (jZt n (wtZ L O))) (takZ L O (jZt n (wtZ L O))):=by
 rw [shrZ,dif_pos ⟨hn,hs,(bZj hL h hn hs).2.1⟩]
theorem uZ9 {L:List Ln} {O:List Int} {n:Int} (h:n≤0∨sumI (wtZ L O)=0):shrZ L n O=O:=by
 rw [shrZ,dif_neg];rintro ⟨h1,h2,_⟩
 rcases h with h | h
 ·omega
 ·exact h2 h
def WI:List Ln→List Int→List Int→Prop
 | l :: L,o :: O,x :: W=>(x=l.wt∨(x=0∧o=l.mi))∧WI L O W
 | [],[],[]=>True
 | _,_,_=>False
theorem WI.all:∀ {L:List Ln} {O:List Int},O.length=L.length→WI L O (L.map Ln.wt)
 | [],[],_=>by simp [WI]
 | l :: L,o :: O,h=>⟨.inl rfl,WI.all (by simpa using h)⟩
 | [],o :: O,h=>by simp at h
 | l :: L,[],h=>by simp at h
theorem WI.len:∀ {L:List Ln} {O W:List Int},WI L O W→W.length=L.length∧O.length=L.length
 | [],[],[],_=>⟨rfl,rfl⟩
 | l :: L,o :: O,x :: W,h=>by have:=WI.len h.2;simp;omega
 | [],o :: O,W,h=>by simp [WI] at h
 | [],[],x :: W,h=>by simp [WI] at h
 | l :: L,[],W,h=>by simp [WI] at h
 | l :: L,o :: O,[],h=>by simp [WI] at h
def mixW (L:List Ln) (O W:List Int) (k:Nat):List Int:=(wtZ L O).take k ++ W.drop k
theorem mixW_zero (L:List Ln) (O W:List Int):mixW L O W 0=W:=by simp [mixW]
theorem mixW_all {L:List Ln} {O W:List Int} (h:WI L O W):mixW L O W L.length=wtZ L O:=by
 have h1:=h.len;have h2:=sZw (L:=L) (O:=O) h1.2;unfold mixW;rw [List.take_of_length_le (by omega),List.drop_of_length_le (by omega),List.append_nil]
theorem WI.get:∀ {L:List Ln} {O W:List Int} {k:Nat} {l:Ln} {o x:Int},WI L O W→L[k]?=some l→O[k]?=some o→W[k]?=some x→x=l.wt∨(x=0∧o=l.mi)
 | l' :: L,o' :: O,x' :: W,0,l,o,x,h,hl,ho,hx=>by
  simp only [List.getElem?_cons_zero,Option.some.injEq] at hl ho hx;subst hl ho hx;exact h.1
 | l' :: L,o' :: O,x' :: W,k+1,l,o,x,h,hl,ho,hx=>by
  simp only [List.getElem?_cons_succ] at hl ho hx;exact WI.get h.2 hl ho hx
 | [],_,_,k,l,o,x,_,hl,_,_=>by simp at hl
 | _ :: _,[],_,k,l,o,x,_,_,ho,_=>by simp at ho
 | _ :: _,_ :: _,[],k,l,o,x,_,_,_,hx=>by simp at hx
theorem mixW_get {L:List Ln} {O W:List Int} {k:Nat} {x:Int} (h:WI L O W) (hx:W[k]?=some x):(mixW L O W k)[k]?=some x:=by
 have h1:=h.len;have h2:=sZw (L:=L) (O:=O) h1.2;have hk:=(List.getElem?_eq_some_iff.1 hx).1;unfold mixW;rw [List.getElem?_append_right (by rw [List.length_take];omega),List.length_take,List.getElem?_drop];rw [show k+(k-min k (wtZ L O).length)=k from by omega];exact hx
theorem mixW_step {L:List Ln} {O W:List Int} {k:Nat} {l:Ln} {o x:Int} (h:WI L O W) (hl:L[k]?=some l) (ho:O[k]?=some o) (hx:W[k]?=some x) (hlo:l.mi≤o) :
  mixW L O W (k+1)=if o=l.mi then (mixW L O W k).set k 0 else mixW L O W k:=by
 have h1:=h.len;have h2:=sZw (L:=L) (O:=O) h1.2;have hk:=(List.getElem?_eq_some_iff.1 hx).1;have hz:=cZk hl ho;have hg:=h.get hl ho hx;obtain ⟨hk2,ez⟩:=List.getElem?_eq_some_iff.1 hz
 have ed:W.drop k=x :: W.drop (k+1):=by rw [List.drop_eq_getElem_cons hk];congr 1;rw [List.getElem?_eq_getElem hk] at hx;exact Option.some.inj hx
 have et:(wtZ L O).take (k+1)=(wtZ L O).take k ++ [if l.mi<o then l.wt else 0]:=by rw [List.take_succ_eq_append_getElem hk2,ez]
 unfold mixW;rw [et,ed,List.append_assoc]
 by_cases e:o=l.mi
 ·rw [if_pos e,if_neg (by omega),List.set_append_right _ _ (by rw [List.length_take];omega),List.length_take];rw [show k-min k (wtZ L O).length=0 from by omega]
  rfl
 ·rw [if_neg e,if_pos (by omega)]
  rcases hg with rfl | ⟨_,h3⟩
  ·rfl
  ·exact absurd h3 e
theorem WI.tak:∀ {L:List Ln} {O P:List Int},SOK L O→(∀ x∈P,0≤x)→WI L (takZ L O P) (wtZ L O)
 | l :: L,o :: O,p :: P,h,hp=>by
  have:=hp p List.mem_cons_self
  have:=jZz p (o-l.mi)
  have h1:=h.1;refine ⟨?_,WI.tak h.2 (fun x hx=>hp x (List.mem_cons_of_mem _ hx))⟩
  by_cases e:l.mi<o
  ·exact .inl (if_pos e)
  ·exact .inr ⟨if_neg e,by omega⟩
 | l :: L,o :: O,[],h,hp=>by
  have h1:=h.1
  have:=WI.tak (P:=[]) h.2 (by simp)
  rw [uZ4] at this ⊢;refine ⟨?_,this⟩
  by_cases e:l.mi<o
  ·exact .inl (if_pos e)
  ·exact .inr ⟨if_neg e,by omega⟩
 | [],[],P,h,_=>by simp [takZ,wtZ,WI]
 | [],o :: O,P,h,_=>by simp [SOK] at h
 | l :: L,[],P,h,_=>by simp [SOK] at h
section
attribute [local go_sem 5000] kZk kZj
theorem bZh (b off n:Nat):(⟨b,off,none⟩:Addr).add n=⟨b,off+n,none⟩:=by unfold Addr.add;split <;> simp_all
theorem SOK.each {L:List Ln} {O:List Int} (hL:kZd L=true) (h:SOK L O) {i:Nat} {l:Ln} {o:Int} (hl:L[i]?=some l) (ho:O[i]?=some o):0≤l.mi∧l.mi≤30∧l.mi≤o∧o≤100000000000000:=by
 have h1:=h.get hl ho;have h2:=hL;simp only [kZd,Bool.and_eq_true,pZa,List.all_eq_true,tZs,wB] at h2;have h3:=(h2.2 l (List.mem_of_getElem? hl)).2;omega
theorem spread_n (A:Option Addr) (c m:Nat) (n:Int) (ws:List Int) (w:World) (h:NV w A ws) (hm:m=ws.length) (hw:wsOK ws) (hn:0≤n) (hn2:n≤100000000000000) :
  Calls Tryz.prog 225 #[.int .i64 n,.slice A m c] w fun e w'=>e=.returned (.slice (some ⟨w.heap.size,0,none⟩) m m)∧IB w' w.heap.size (jZt n ws)∧Below w.heap.size w w':=by subst hm;exact hZ6 A c n ws w h hw hn hn2
theorem shrunk_v (A:Option Addr) (c no:Nat) (O:List Int) (A':Option Addr) (c':Nat) (L:List Ln) (n:Int) (w:World) (h:NV w A O) (hno:no=O.length) (h':LnV w A' L) (hL:kZd L=true) (hS:SOK L O) (hn:n≤100000000000000) (hn0:0≤n) :
  Calls Tryz.prog 222 #[.slice A no c,.slice A' L.length c',.int .i64 n] w fun e w'=>e=.returned (.slice (some ⟨w.heap.size,0,none⟩) no no)∧IB w' w.heap.size (shrZ L n O)∧Below w.heap.size w w':=by
 obtain ⟨hl1,hl5⟩:=kZz hL;have hol:=hS.len
 have hno5:no≤5:=by omega
 have hno1:1≤no:=by omega
 have hmk:∀ w:World,(Instr.makeSlice 47 (.int .i64 (no:Int)) (.int .i64 (no:Int))).run Tryz.prog w=.ok (.slice (some ⟨w.heap.size,0,none⟩) no no) (w.alloc (.cells (pZn (List.replicate no 0)) 3)):=fun w=>gZ2 no w (by omega)
 have hsz:(Tryz.prog.info? 3).map (·.size)=some 1:=by kernel_rfl
 obtain ⟨b,off,rfl,hb,hp⟩:=h.cells (by omega);have hB0:Below w.heap.size w (w.alloc (.cells (pZn (List.replicate no 0)) 3)):=jZd (Below.refl _ _)
 have hsrc:∀ j v,(O.map (Value.int .i64))[j]?=some v→(w.alloc (.cells (pZn (List.replicate no 0)) 3)).cell? ((⟨b,off,none⟩:Addr).add j)=some v:=fun j v hj=>by
  rw [List.getElem?_map] at hj
  cases ho:O[j]? with
  | none=>rw [ho] at hj;cases hj
  | some x =>
   rw [ho] at hj;obtain rfl:=Option.some.inj hj;rw [bZh];exact (hB0.cell (p:=⟨b,off+j,none⟩) hb).trans (hp j x ho)
 have hcp:=run_copy_row (P:=Tryz.prog) (w.alloc (.cells (pZn (List.replicate no 0)) 3)) 47 47 3 3 w.heap.size 0 no no ⟨b,off,none⟩ no c (pZn (List.replicate no 0)) 3 (O.map (Value.int .i64)) Tryz.underlying47 hsz (newS _ _) (by simp [hno]) hsrc (by simp [pZn,hno]) (by simp [Value.oneCell'])
 have hrow:(((pZn (List.replicate no 0)).toList.take 0) ++ O.map (Value.int .i64) ++ (pZn (List.replicate no 0)).toList.drop (0+(O.map (Value.int .i64)).length)).toArray=pZn O:=by simp [pZn,hno]
 have hlo:(O.map (Value.int .i64)).length=no:=by simp [hno]
 rw [hrow,hlo] at hcp;have hi2:IB ((w.alloc (.cells (pZn (List.replicate no 0)) 3)).setRow w.heap.size (pZn O)) w.heap.size O:=setRow_heap _ _ _ _ _ _ (newS _ _);have hb2:Below w.heap.size w ((w.alloc (.cells (pZn (List.replicate no 0)) 3)).setRow w.heap.size (pZn O)):=below_setRow hB0 (Nat.le_refl _) _
 obtain ⟨W2,hW2⟩:∃ W2,(w.alloc (.cells (pZn (List.replicate no 0)) 3)).setRow w.heap.size (pZn O)=W2:=⟨_,rfl⟩
 rw [hW2] at hcp hi2 hb2;have HI:=hD hi2;have HB:=hD hb2;clear hW2 hi2 hb2 hrow hlo;have HL:=hD hL;have HS:=hD hS;have HNO:=hD hno;have HNL:=hD (show no=L.length by omega);clear hsrc hB0 hp hL hS hol hno hsz
 go_enter Tryz.func222,Tryz.ntmps222
 go_wp2_with fail
 with_reducible refine (tZz A' c' L _ (h'.keep HB.out) (by omega)).mono ?_
 rintro e w3 ⟨rfl,hi3,hb3⟩;have hgw:w.heap.size<W2.heap.size:=HI.out.lt;replace HI:=hD (HI.out.keep hb3);replace HB:=hD (jZa HB.out hb3);have HW:=hD hi3;clear hi3 hb3 hcp hmk;generalize W2.heap.size=gw at *
 go_wp2_with fail
 go_loopw [2] (fun nv wr=>∃ (n':Int) (O' W':List Int),nv=.int .i64 n'∧0≤n'∧n'≤100000000000000∧SOK L O'∧WI L O' W'∧IB wr w.heap.size O'∧IB wr gw W'∧shrZ L n' O'=shrZ L n O∧Below w.heap.size w wr) (fun nv _=>(intOf nv).toNat)
 case atStart=>exact ⟨n,O,L.map Ln.wt,rfl,hn0,hn,HS.out,WI.all HS.out.len,HI.out,HW.out,rfl,HB.out⟩
 case round =>
  obtain ⟨n',O',W',rfl,hn0',hn',hS,hWI,hI,hWr,hR,hBr⟩:=hrel;clear HI HW HB HS;have HI:=hD hI;have HW:=hD hWr;have HB:=hD hBr;have HS:=hD hS;have HWI:=hD hWI;have HR:=hD hR;have hol:=hS.len;clear hI hWr hBr hS hWI hR
  by_cases hpos:0<n'
  ·have hd:decide (n'>0)=true:=by simpa using hpos
   go_wp2_with fail
   go_loopw [25] (fun i wr=>∃ k:Nat,k≤L.length∧i=.int .i64 k∧IB wr w.heap.size O'∧IB wr gw (mixW L O' W' k)∧Below w.heap.size w wr) (fun i _=>L.length-(intOf i).toNat)
   case atStart=>exact ⟨0,by omega,rfl,HI.out,by rw [mixW_zero];exact HW.out,HB.out⟩
   case round =>
    obtain ⟨k,hk,rfl,hI,hWr,hBr⟩:=hrel;clear HI HW HB
    by_cases hlt:k<L.length
    ·have hd2:decide ((k:Int)<(L.length:Int))=true:=by simpa using hlt
     obtain ⟨b',off',rfl,hb',hp⟩:=(h'.keep hBr).cells (by omega);have hget:L[k]?=some L[k]:=List.getElem?_eq_getElem hlt;obtain ⟨c0,c1⟩:=hp k _ hget
     have hko:k<O'.length:=by omega
     have hgo:O'[k]?=some O'[k]:=List.getElem?_eq_getElem hko
     have hkw:k<W'.length:=by have:=HWI.out.len;omega
     have hgx:W'[k]?=some W'[k]:=List.getElem?_eq_getElem hkw;have hlo:=SOK.each HL.out HS.out hget hgo;have hst:=mixW_step HWI.out hget hgo hgx hlo.2.2.1;have hmg:=mixW_get HWI.out hgx;generalize L[k]=l at *;generalize O'[k]=o at *;generalize W'[k]=x at *;have p0:=hI.cell hgo
     have hkn:(k:Int)<(no:Int):=by have:=HNL.out;omega
     have hs1:=hI.lt;have HI:=hD hI;have HW:=hD hWr;have HB:=hD hBr;have HMG:=hD hmg;have HST:=hD hst;clear hI hWr hBr hp hget hgo hgx hmg hst
     by_cases e:o=l.mi
     ·have hz:(o == l.mi)=true:=by simpa using e
      go_wp2_with fail
      refine jZg 10 0 (·<10) (by kernel_rfl) (by kernel_rfl) rfl ?_
      iterate 10 (refine jZ3 (fun K hK=>?_);first|(refine kZr rfl ?_;go_simp;refine hK _ ?_;clear hK K)|(apply Exists.intro;refine ⟨.inl ⟨rfl,fun w' hw'=>?_⟩,?_⟩;(focus ((obtain ⟨hc,hf⟩:=kZi hw'.out);(have hcS:=kZq hw'.out);go_simp <;> first | rfl | fail));(go_simp;refine hK _ ?_;clear hK K)))
      refine jZ9 ?_;refine jZ1 (by kernel_rfl) (fun w5 hg5=>?_);have hb5:=jZs hg5.out;refine jZq (by kernel_rfl) ?_;refine kZ0.thn ?_;clear hg5;have HW5:=HW.out.keep hb5;have d0:=HW5.cell HMG.out;have f0:=HW5.frozen k;have HW6:=HW5.set k 0;have hst:=HST.out;rw [if_pos e] at hst;rw [<- hst] at HW6;have HW6:=hD HW6
      have HI6:=hD ((HI.out.keep hb5).but (tZ6 (tZy _ gw) k (.int .i64 0)) (by omega));have HB6:=hD ((jZa HB.out hb5).setCell (p:=⟨gw,k,none⟩) (by show w.heap.size≤gw;omega) (.int .i64 0));clear HW5 hb5 hst HW HI HB;go_wp2
      go_roundw
      case rel=>exact ⟨k+1,by omega,by go_num,HI6.out,HW6.out,HB6.out⟩
      case measure=>simp [intOf];omega
     ·have hz:(o == l.mi)=false:=by simpa using e
      go_wp2_with fail
      refine jZg 10 0 (·<10) (by kernel_rfl) (by kernel_rfl) rfl ?_
      iterate 10 (refine jZ3 (fun K hK=>?_);first|(refine kZr rfl ?_;go_simp;refine hK _ ?_;clear hK K)|(apply Exists.intro;refine ⟨.inl ⟨rfl,fun w' hw'=>?_⟩,?_⟩;(focus ((obtain ⟨hc,hf⟩:=kZi hw'.out);(have hcS:=kZq hw'.out);go_simp <;> first | rfl | fail));(go_simp;refine hK _ ?_;clear hK K)))
      refine jZ9 ?_;refine jZ1 (by kernel_rfl) (fun w5 hg5=>?_);have hb5:=jZs hg5.out;refine jZq (by kernel_rfl) ?_;refine kZ0.thn ?_;clear hg5;have hst:=HST.out;rw [if_neg e] at hst;have HW6:=hD (HW.out.keep hb5);have HI6:=hD (HI.out.keep hb5);have HB6:=hD (jZa HB.out hb5);have HST2:=hD hst;clear hb5 hst HW HI HB;go_wp2
      go_roundw
      case rel=>exact ⟨k+1,by omega,by go_num,HI6.out,by rw [HST2.out];exact HW6.out,HB6.out⟩
      case measure=>simp [intOf];omega
    ·have hd2:decide ((k:Int)<(L.length:Int))=false:=decide_eq_false (by omega)
     obtain rfl:k=L.length:=by omega
     rw [mixW_all HWI.out] at hWr;have HI:=hD hI;have HW:=hD hWr;have HB:=hD hBr;have hok:=wtZ_ok HL.out HS.out;have hwl:=sZw HS.out.len;have HOK:=hD hok;have HWL:=hD hwl.symm;clear hI hWr hBr hok hwl
     go_wp2_with fail
     with_reducible refine (sum_n _ _ L.length (wtZ L O') _ HW.out.nv HWL.out (by omega) HOK.out.smal).mono ?_
     rintro e w5 ⟨rfl,rfl⟩
     by_cases hs:sumI (wtZ L O')=0
     ·have hz:(sumI (wtZ L O') == 0)=true:=by simpa using hs
      have HE:=hD (uZ9 (L:=L) (n:=n') (.inr hs));clear hs;go_wp2;go_ret;exact ⟨rfl,by rw [<- HR.out,HE.out];exact HI.out,HB.out⟩
     ·have hz:(sumI (wtZ L O') == 0)=false:=by simpa using hs
      have HGO:=hD (shr_go HL.out HS.out hpos hs);have HRK:=hD (bZj HL.out HS.out hpos hs);clear hs
      go_wp2_with fail
      with_reducible refine (spread_n _ _ L.length n' (wtZ L O') _ HW.out.nv HWL.out HOK.out hn0' hn').mono ?_
      rintro e w5 ⟨rfl,hp5,hb5⟩;have HI5:=hD (HI.out.keep hb5);have HW5:=hD (HW.out.keep hb5);have HB5:=hD (jZa HB.out hb5);have HP:=hD hp5;have hgp:gw<wr.heap.size:=HW.out.lt;have HPB:=hD (rZ8 (n:=n') hn0' HOK.out)
      have hpl:(jZt n' (wtZ L O')).length=L.length:=by rw [kZ5];exact HWL.out.symm
      have HPL:=hD hpl;clear hp5 hb5 hpl HI HW HB;generalize wr.heap.size=gp at *;generalize jZt n' (wtZ L O')=P at *
      go_wp2_with fail
      go_loopw [2,49] (fun nv i wr=>∃ k:Nat,k≤L.length∧i=.int .i64 k∧nv=.int .i64 (n'-tknZ L O' (P.take k))∧IB wr w.heap.size (takZ L O' (P.take k))∧w5.grownBy wr (some w.heap.size)) (fun _ i _=>L.length-(intOf i).toNat)
      case atStart=>exact ⟨0,by omega,rfl,by rw [List.take_zero,eZt,Int.sub_zero],by rw [List.take_zero,uZ4];exact HI5.out,tZy _ _⟩
      case round =>
       obtain ⟨k,hk,rfl,rfl,hI,hgr⟩:=hrel;clear HI5
       by_cases hlt:k<L.length
       ·have hd2:decide ((k:Int)<(L.length:Int))=true:=by simpa using hlt
        have hBr:=pZk HB5.out hgr (Nat.le_refl _) HB5.out.size;obtain ⟨b',off',rfl,hb',hq⟩:=(h'.keep hBr).cells (by omega);have hget:L[k]?=some L[k]:=List.getElem?_eq_getElem hlt;obtain ⟨c0,c1⟩:=hq k _ hget
        have hko:k<O'.length:=by omega
        have hgo:O'[k]?=some O'[k]:=List.getElem?_eq_getElem hko
        have hkp:k<P.length:=by have:=HPL.out;omega
        have hgq:P[k]?=some P[k]:=List.getElem?_eq_getElem hkp;have hlo:=SOK.each HL.out HS.out hget hgo;have hpb:=HPB.out _ (List.getElem_mem hkp)
        have hpt:∀ x∈P.take k,(0:Int)≤x∧x≤100000000000000:=fun x hx=>by have:=HPB.out x (List.mem_of_mem_take hx);omega
        have htb:=gZj (P:=P.take k) HS.out (fun x hx=>(hpt x hx).1);have hsb:=sZ0 hpt
        have hlt5:(P.take k).length≤5:=by rw [List.length_take];omega
        have hts:=bZ5 hget hgo hgq;have htk:=bZ2 hget hgo hgq;have hx0:(takZ L O' (P.take k))[k]?=some O'[k]:=dZ0 hgo (by rw [List.length_take];omega);generalize L[k]=l at *;generalize O'[k]=o at *;generalize P[k]=p at *;obtain ⟨hlo1,hlo2,hlo3,hlo4⟩:=hlo;obtain ⟨hp0,hp1⟩:=hpb;have q0:=(HP.out.but hgr (by omega)).cell hgq;have d0:=hI.cell hx0;have hs1:=hI.lt
        have hs2:=(HP.out.but hgr (by omega)).lt
        have hkn:(k:Int)<(no:Int):=by have:=HNL.out;omega
        have hwr:IntKind.i64.wrap (o-l.mi)=o-l.mi:=IntWalk.i64_in _ (by omega);have hmn:=jZz p (o-l.mi);have HX0:=hD hx0;have HI:=hD hI;have HG:=hD hgr;have HTS:=hD hts;have HTK:=hD htk;have HMN:=hD hmn;have ht00:0≤tknZ L O' (P.take k):=htb.1
        have ht01:tknZ L O' (P.take k)≤500000000000000:=by omega
        generalize tknZ L O' (P.take k)=t0 at *;clear hI hgr hBr hts htk hmn hx0 hget hgo hgq hq htb hsb hpt hlt5
        go_wp2_with fail
        refine jZg 12 1 (·<12) (by kernel_rfl) (by kernel_rfl) rfl ?_
        iterate 12 (refine jZ3 (fun K hK=>?_);first|(refine kZr rfl ?_;go_simp;refine hK _ ?_;clear hK K)|(apply Exists.intro;refine ⟨.inl ⟨rfl,fun w' hw'=>?_⟩,?_⟩;(focus ((obtain ⟨hc,hf⟩:=kZi hw'.out);(have hcS:=kZq hw'.out);go_simp <;> first | rfl | fail));(go_simp;refine hK _ ?_;clear hK K)))
        refine jZ9 ?_;refine jZ1 (by kernel_rfl) (fun w7 hg7=>?_);have hb7:=jZs hg7.out;obtain ⟨hc7,hf7⟩:=kZi hb7;refine jZn (i:=12) (by kernel_rfl) rfl rfl ?_;go_simp;refine jZq (by kernel_rfl) ?_;refine kZ0.thn ?_;clear hc7 hf7;clear hg7
        obtain ⟨t,ht⟩:∃ t,mn p (o-l.mi)=t:=⟨_,rfl⟩
        have hmn:=HMN.out;have HTS2:=HTS.out;have HTK2:=HTK.out;rw [ht] at hmn HTS2 HTK2;rw [ht];have HI7:=HI.out.keep hb7;have d7:=HI7.cell HX0.out;have f7:=HI7.frozen k;have HI8:=HI7.set k (o-t);rw [HTS2] at HI8;have HI8:=hD HI8;have HG8:=hD (tZ6 (qZa HG.out hb7) k (.int .i64 (o-t)));have HTK2:=hD HTK2
        have ht0:0≤t:=by omega
        have ht1:t≤p:=hmn.1;clear HI7 HTS2 hb7 hmn ht HMN HTS HTK HI HG;go_wp2
        go_roundw
        case rel=>exact ⟨k+1,by omega,by go_num,by rw [HTK2.out];go_num,HI8.out,HG8.out⟩
        case measure=>simp [intOf];omega
       ·have hd2:decide ((k:Int)<(L.length:Int))=false:=decide_eq_false (by omega);have hke:P.take k=P:=List.take_of_length_le (by have:=HPL.out;omega);rw [hke] at hI ⊢;obtain ⟨hr1,hr2,hr3,hr4⟩:=HRK.out;have HI6:=hD hI;have HW6:=hD (HW5.out.but hgr (by omega));have HB6:=hD (pZk HB5.out hgr (Nat.le_refl _) HB5.out.size);have HWI6:=hD (WI.tak HS.out hr1);have HS6:=hD hr4
        clear hI hgr hke hr1 hr4;go_wp2
        go_roundw
        case rel=>exact ⟨_,_,_,rfl,by omega,by omega,HS6.out,HWI6.out,HI6.out,HW6.out,by rw [<- HGO.out];exact HR.out,HB6.out⟩
        case measure=>simp [intOf];omega
  ·have hd:decide (n'>0)=false:=by simpa using hpos
   have HE:=hD (uZ9 (L:=L) (O:=O') (n:=n') (.inl (by omega)));go_wp2;go_ret;exact ⟨rfl,by rw [<- HR.out,HE.out];exact HI.out,HB.out⟩
end
section
attribute [local go_sem 5000] kZk kZj
def MI (L:List Ln) (O:List Int):Prop:=∀ (i:Nat) (l:Ln) (o:Int),L[i]?=some l→O[i]?=some o→l.mi≤o
theorem addP_ge:∀ {O P:List Int} {i:Nat} {o':Int},(∀ x∈P,0≤x)→(addP O P)[i]?=some o'→∃ o,O[i]?=some o∧o≤o'
 | [],P,i,o',_,h=>by simp [addP] at h
 | o :: O,[],i,o',_,h=>⟨o',by simpa [addP] using h,Int.le_refl _⟩
 | o :: O,p :: P,0,o',hp,h=>by
  have:=hp p List.mem_cons_self
  simp only [addP,List.getElem?_cons_zero,Option.some.injEq] at h;exact ⟨o,rfl,by omega⟩
 | o :: O,p :: P,i+1,o',hp,h=>by
  simp only [addP,List.getElem?_cons_succ] at h;obtain ⟨q,h1,h2⟩:=addP_ge (fun x hx=>hp x (List.mem_cons_of_mem _ hx)) h;exact ⟨q,by simpa using h1,h2⟩
theorem addAt_ge {O P:List Int} {k i:Nat} {o':Int} (hp:∀ x∈P,0≤x) (h:(qZg O k P)[i]?=some o'):∃ o,O[i]?=some o∧o≤o':=by
 unfold qZg at h
 by_cases hi:i<(O.take k).length
 ·rw [List.getElem?_append_left hi] at h
  have h2:i<k:=by rw [List.length_take] at hi;omega
  rw [List.getElem?_take,if_pos h2] at h;exact ⟨o',h,Int.le_refl _⟩
 ·rw [List.getElem?_append_right (by omega)] at h;obtain ⟨o,h1,h2⟩:=addP_ge hp h;rw [List.getElem?_drop] at h1;rw [List.length_take] at h1 hi
  by_cases hk:k≤O.length
  ·rw [show k+(i-min k O.length)=i from by omega] at h1;exact ⟨o,h1,h2⟩
  ·have:=(List.getElem?_eq_some_iff.1 h1).1
   omega
theorem MI.add {L:List Ln} {O P:List Int} {k:Nat} (h:MI L O) (hp:∀ x∈P,0≤x):MI L (qZg O k P):=fun i l o hl ho=>by
 obtain ⟨o1,h1,h2⟩:=addAt_ge hp ho
 have:=h i l o1 hl h1
 omega
theorem MI.step {L:List Ln} {O ws:List Int} {n:Nat} {s:Sp} (h:MI L O) (hw:wsOK ws) (hl:ws.length=n) (hs:vZf n s):MI L (vZj ws O s):=by
 obtain ⟨a,m,e1,e2,h1,h2,h3,h4⟩:=hs;unfold vZj;rw [show s.sa.toNat=a from by omega,show s.many.toNat=m from by omega];exact h.add (uZw (by have:=kZc (s.need-sumI (segI O a m)) 0;omega) (seg_ok hw h1 (by omega)))
theorem MI.round {L:List Ln} {ws:List Int} {n:Nat} {m:Int} (hw:wsOK ws) (hl:ws.length=n):∀ {S:List Sp} {O:List Int},(∀ s∈S,vZf n s)→MI L O→MI L (rZc ws m S O)
 | [],O,_,h=>h
 | s :: S,O,hs,h=>by
  unfold rZc;rw [List.foldl_cons]
  have hs':∀ s∈S,vZf n s:=fun x hx=>hs x (List.mem_cons_of_mem _ hx)
  split
  ·exact MI.round hw hl hs' (h.step hw hl (hs s List.mem_cons_self))
  ·exact MI.round hw hl hs' h
theorem MI.req {L:List Ln} {ws:List Int} {n:Nat} {S:List Sp} {O:List Int} (hw:wsOK ws) (hl:ws.length=n) (hs:∀ s∈S,vZf n s) (h:MI L O):∀ i,MI L (reqN ws S O i)
 | 0=>h
 | i+1=>MI.round hw hl hs (MI.req hw hl hs h i)
theorem SOK.of:∀ {L:List Ln} {O:List Int},O.length=L.length→MI L O→(∀ x∈O,x≤100000000000000)→SOK L O
 | [],[],_,_,_=>trivial
 | l :: L,o :: O,hl,h,hx=>⟨⟨h 0 l o rfl rfl,hx o List.mem_cons_self⟩,SOK.of (by simpa using hl) (fun i l' o' h1 h2=>h (i+1) l' o' (by simpa using h1) (by simpa using h2)) (fun x hm=>hx x (List.mem_cons_of_mem _ hm))⟩
 | [],o :: O,h,_,_=>by simp at h
 | l :: L,[],h,_,_=>by simp at h
theorem pZ1 {L:List Ln} {S:List Sp} (hL:kZd L=true) (hS:pZ7 L.length S):SOK L (kZl L S)∧(kZl L S).length=L.length∧(∀ x∈kZl L S,0≤x∧x≤100000000000000)∧0≤sumI (kZl L S)∧sumI (kZl L S)≤10000000000350:=by
 obtain ⟨hO,hW⟩:=tZw hL;have hb:=vZ8 hL hS;have b2:=uZj (n:=L.length) (S:=S) (B:=1000000000020) (by omega) (fun s h=>by obtain ⟨a,m,e1,e2,h1,h2,h3,h4⟩:=hS.2 s h;exact h4);have hS8:=hS.1;have hx:=hb.eachW (by omega)
 have hm:MI L (L.map Ln.mi):=fun i l o h1 h2=>by
  rw [List.getElem?_map,h1] at h2
  have:=Option.some.inj h2
  omega
 exact ⟨SOK.of hb.1 (MI.req hW (by simp) hS.2 hm L.length) (fun x h=>(hx x h).2),hb.1,hx,kZ9 hb.2.1,by have:=hb.2.2;omega⟩
def kZa (L:List Ln) (S:List Sp) (room:Int):List Int :=
 if room-sumI (kZl L S)<0 then shrZ L (-(room-sumI (kZl L S))) (kZl L S)
 else if sumI (L.map Ln.wt)=0 then kZl L S
 else qZg (kZl L S) 0 (jZt (room-sumI (kZl L S)) (L.map Ln.wt))
theorem cZe (A:Option Addr) (c:Nat) (L:List Ln) (A':Option Addr) (c':Nat) (S:List Sp) (room:Int) (w:World) (h:LnV w A L) (hL:kZd L=true) (h':SpV w A' S) (hS:pZ7 L.length S) (hr0:0≤room) (hr1:room≤20000000000000) :
  Calls Tryz.prog 211 #[.slice A L.length c,.slice A' S.length c',.int .i64 room] w fun e w'=>(∃ g,e=.returned (.slice (some ⟨g,0,none⟩) L.length L.length)∧w.heap.size≤g∧IB w' g (kZa L S room))∧Below w.heap.size w w':=by
 obtain ⟨hl1,hl5⟩:=kZz hL;obtain ⟨hk1,hk2,hk3,hk4,hk5⟩:=pZ1 hL hS;have hww:=(tZw hL).2;have hws:=hww.sum;have HL:=hD hL;have HS:=hD hS;have HWW:=hD hww;have HK1:=hD hk1;have HK2:=hD hk2;have HK3:=hD hk3;have HD:=hD (show kZa L S room=_ from rfl);clear hL hS hww hk1 hk2 hk3 HD
 go_enter Tryz.func211,Tryz.ntmps211
 go_wp2_with fail
 with_reducible refine (rZ4 A c L A' c' S _ h HL.out h' HS.out).mono ?_
 rintro e w1 ⟨rfl,hi1,hb1⟩;have HLV:=hD (h.keep hb1);have HI:=hD hi1;have HB:=hD hb1;clear hi1 hb1
 go_wp2_with fail
 with_reducible refine (tZz A c L _ HLV.out (by omega)).mono ?_
 rintro e w2 ⟨rfl,hi2,hb2⟩;have hgw:=HI.out.lt;replace HI:=hD (HI.out.keep hb2);replace HB:=hD (jZa HB.out hb2);have HW:=hD hi2;clear hi2 hb2 HLV;generalize w1.heap.size=gw at *;have HSM:=hD (tZ2 (L:=kZl L S) (b:=100000000000000) (M:=1000000000000000) (fun x hx=>by have:=HK3.out x hx;omega) (by omega) (by rw [HK2.out];omega))
 go_wp2_with fail
 with_reducible refine (sum_n _ _ L.length (kZl L S) _ HI.out.nv HK2.out.symm (by omega) HSM.out).mono ?_
 rintro e w3 ⟨rfl,rfl⟩
 obtain ⟨q,hq⟩:∃ q,sumI (kZl L S)=q:=⟨_,rfl⟩
 rw [hq] at hk4 hk5;rw [hq];have HQ:=hD hq;clear hq
 by_cases hneg:room-q<0
 ·have hd:decide (room-q<0)=true:=by simpa using hneg
  have he:kZa L S room=shrZ L (-(room-q)) (kZl L S):=by unfold kZa;rw [HQ.out,if_pos hneg]
  have HE:=hD he;clear he;have hnw:IntKind.i64.wrap (-(room-q))=-(room-q):=IntWalk.i64_in _ (by omega)
  go_wp2_with fail
  refine (shrunk_v _ _ L.length (kZl L S) _ _ L _ _ HI.out.nv HK2.out.symm (h.keep HB.out) HL.out HK1.out (by omega) (by omega)).mono ?_;rintro e w5 ⟨rfl,hi5,hb5⟩;have hsz:=HB.out.size;have HB5:=hD (jZa HB.out hb5)
  first | rw [<- HE.out] at hi5|(rw [show q-room=-(room-q) from by omega,<- HE.out] at hi5)
  have HI5:=hD hi5;clear hi5 hb5 HI HB;go_wp2;go_ret;exact ⟨⟨_,rfl,hsz,HI5.out⟩,HB5.out⟩
 ·have hd:decide (room-q<0)=false:=by simpa using hneg
  go_wp2_with fail
  with_reducible refine (sum_n _ _ L.length (L.map Ln.wt) _ HW.out.nv (by simp) (by omega) HWW.out.smal).mono ?_
  rintro e w3 ⟨rfl,rfl⟩
  by_cases hz:sumI (L.map Ln.wt)=0
  ·have hd2:decide (sumI (L.map Ln.wt)>0)=false:=by simp;omega
   have he:kZa L S room=kZl L S:=by unfold kZa;rw [HQ.out,if_neg (by omega),if_pos hz]
   have HE:=hD he;clear he;go_wp2;go_ret;exact ⟨⟨_,rfl,Nat.le_refl _,by rw [HE.out];exact HI.out⟩,HB.out⟩
  ·have hd2:decide (sumI (L.map Ln.wt)>0)=true:=by simp;omega
   have he:kZa L S room=qZg (kZl L S) 0 (jZt (room-q) (L.map Ln.wt)):=by unfold kZa;rw [HQ.out,if_neg (by omega),if_neg hz]
   have HE:=hD he;clear he
   go_wp2_with fail
   refine (fZs w.heap.size 0 L.length _ _ _ (kZl L S) (L.map Ln.wt) _ _ HI.out (by simp) (by rw [HK2.out];omega) (fun x hx=>⟨(HK3.out x hx).1,by have:=(HK3.out x hx).2;omega⟩) HW.out.nv HWW.out (by omega) (by omega)).mono ?_;rintro e w5 ⟨⟨v,rfl⟩,hi5,hg5⟩;rw [<- HE.out] at hi5;have HI5:=hD hi5;have HB5:=hD (pZk HB.out hg5 (Nat.le_refl _) HB.out.size);clear hi5 hg5 HI HB;go_wp2
   go_ret;exact ⟨⟨_,rfl,Nat.le_refl _,HI5.out⟩,HB5.out⟩
end
section
attribute [local go_sem 5000] kZk kZj
theorem OB.but {w w':World} {g h cap:Nat} {L:List Int} (hi:OB w h cap L) (hg:w.grownBy w' (some g)) (hne:h≠g):OB w' h cap L:=by
 obtain ⟨hl,cs,hh,hs,hc⟩:=hi;exact ⟨hl,cs,(hg.block h (ltS hh) (fun e=>hne (Option.some.inj e))).trans hh,hs,hc⟩
theorem vZb {n:Nat} {a W w5:World} {v:Value} {lo hi:Nat} (h':Below n a W) (hg:W.grownBy w5 v.ownBlock) (hob:∀ k,v.ownBlock=some k→lo≤k∧k<hi) (hlo:n≤lo) (hn:n≤a.heap.size):Below n a w5 :=
 ⟨hg.os.trans h'.os,hg.tape.trans h'.tape,hg.output.trans h'.output,Nat.le_trans h'.size hg.size,fun k hk=>(hg.block k (Nat.lt_of_lt_of_le (Nat.lt_of_lt_of_le hk hn) h'.size) (fun e=>by have:=hob k e.symm;omega)).trans (h'.block k hk)⟩
theorem mixM_skip {B:List Int} {k:Nat} (h:B[k]?=some 0):mixM B (k+1)=mixM B k:=by
 obtain ⟨hk,e⟩:=List.getElem?_eq_some_iff.1 h;unfold mixM;rw [List.take_succ_eq_append_getElem hk,e,show B.length-k=(B.length-(k+1))+1 from by omega,List.replicate_succ,List.append_assoc]
 rfl
theorem sshrunk_v (A:Option Addr) (c no:Nat) (O:List Int) (A':Option Addr) (c':Nat) (L:List Ln) (n:Int) (w:World) (h:NV w A O) (hno:no=O.length) (h':LnV w A' L) (hL:kZd L=true) (hS:SOK L O) (hn:n≤100000000000000) (hn0:0≤n) :
  Calls Tryz.prog 183 #[.slice A' L.length c',.slice A no c,.int .i64 n] w fun e w'=>(∃ g cap,e=.returned (.slice (some ⟨g,0,none⟩) no cap)∧w.heap.size≤g∧OB w' g cap (shrZ L n O))∧Below w.heap.size w w':=by
 obtain ⟨hl1,hl5⟩:=kZz hL;have hol:=hS.len
 have hno5:no≤5:=by omega
 have hno1:1≤no:=by omega
 obtain ⟨ti,tz,ti1,ti2,ti3,ti4,ti5⟩:=rZx
 have hmk:∀ w:World,(Instr.makeSlice 47 (.int .i64 (L.length:Int)) (.int .i64 (L.length:Int))).run Tryz.prog w=.ok (.slice (some ⟨w.heap.size,0,none⟩) L.length L.length) (w.alloc (.cells (pZn (List.replicate L.length 0)) 3)):=fun w=>gZ2 L.length w (by omega)
 obtain ⟨b,off,rfl,hb,hp⟩:=h.cells (by omega);have hB0:Below w.heap.size w (w.alloc (.cells #[] 3 (0,0))):=jZd (Below.refl _ _)
 have hsrc:∀ j v,(kZt O)[j]?=some v→(w.alloc (.cells #[] 3 (0,0))).cell? ((⟨b,off,none⟩:Addr).add j)=some v:=fun j v hj=>by
  unfold kZt at hj;rw [List.getElem?_map] at hj
  cases ho:O[j]? with
  | none=>rw [ho] at hj;cases hj
  | some x =>
   rw [ho] at hj;obtain rfl:=Option.some.inj hj;rw [bZh];exact (hB0.cell (p:=⟨b,off+j,none⟩) hb).trans (hp j x ho)
 have ho0:(w.alloc (.cells #[] 3 (0,0))).ownsRow w.heap.size 3 1 (.slice (some ⟨w.heap.size,0,none⟩) 0 0) 0 (kZt []):=World.ownsRow_lit (base:=w.heap.size) (e:=3) (size:=1) w #[] 0 (Nat.le_refl _) (by decide) rfl;have hob:=ho0.lt;have HO:=hD ho0;have HSRC:=hD hsrc;have HB0:=hD hB0;have HL:=hD hL;have HS:=hD hS;have HNO:=hD hno;have HNL:=hD (show no=L.length by omega);have HMK:=hD hmk
 have h1c:∀ v∈kZt O,v.oneCell'=true:=by simp [kZt,Value.oneCell']
 have hnl:(kZt O).length=no:=by simp [kZt,hno]
 have HNV:=hD hnl;clear hsrc hB0 hp hL hS hol hno ho0 hmk hnl
 go_enter Tryz.func183,Tryz.ntmps183
 go_wp2_with (at_builtin;refine wpList_append_own _ rfl _ _ 47 rfl w.heap.size 3 ti tz 1 8 Tryz.underlying47 ti1 ti2 ti3 ti4 ti5 (by decide) _ _ _ rfl HO.out ⟨b,off,none⟩ no c (kZt O) rfl (by rw [HNV.out,Nat.mul_one]) HSRC.out h1c (by simp only [maxLen];omega) (by omega) (by simp) ?_)
 intro v5 w5 how5 hgr5 _
 have hnv0:kZt [] ++ kZt O=kZt O:=by simp [kZt]
 simp only [hnv0,Nat.zero_add] at how5;have HB5:=hD (vZb HB0.out hgr5 hob (Nat.le_refl _) (Nat.le_refl _))
 rcases vZk how5 HNO.out with ⟨rfl,hM⟩ | ⟨g,cap,rfl,hbg,hO⟩
 ·have:O.length=0:=by rw [hM];rfl
  have:=HNO.out
  omega
 have HO5:=hD hO;clear how5 hgr5 hnv0 HO HSRC HB0 hob hO h1c
 go_wp2_with fail
 go_loopw [2] (fun nv wr=>∃ (n':Int) (O':List Int),nv=.int .i64 n'∧0≤n'∧n'≤100000000000000∧SOK L O'∧OB wr g cap O'∧shrZ L n' O'=shrZ L n O∧Below w.heap.size w wr) (fun nv _=>(intOf nv).toNat)
 case atStart=>exact ⟨n,O,rfl,hn0,hn,HS.out,HO5.out,rfl,HB5.out⟩
 case round =>
  obtain ⟨n',O',rfl,hn0',hn',hS,hI,hR,hBr⟩:=hrel;clear HO5 HB5 HS;have HI:=hD hI;have HB:=hD hBr;have HS:=hD hS;have HR:=hD hR;have hol:=hS.len;clear hI hBr hS hR
  by_cases hpos:0<n'
  ·have hd:decide (n'>0)=true:=by simpa using hpos
   have hmk:=HMK.out
   go_wp2_with fail
   have hIg:=HI.out.lt;have hBa:Below wr.heap.size wr (wr.alloc (.cells (pZn (List.replicate L.length 0)) 3)):=jZd (Below.refl _ _);have HI1:=hD (HI.out.keep hBa);have HB1:=hD (jZa HB.out hBa)
   have hW1:IB (wr.alloc (.cells (pZn (List.replicate L.length 0)) 3)) wr.heap.size (mixM (wtZ L O') 0):=by rw [sZ7,sZw HS.out.len];exact vZe _ _
   have HW1:=hD hW1;have hwl:=sZw HS.out.len;have HWL:=hD hwl.symm;have hwg:w.heap.size≤wr.heap.size:=HB.out.size;clear hBa hW1 hmk hwl HI HB;generalize wr.heap.size=gw at *
   go_loopw [9] (fun i wr=>∃ k:Nat,k≤L.length∧i=.int .i64 k∧OB wr g cap O'∧IB wr gw (mixM (wtZ L O') k)∧Below w.heap.size w wr) (fun i _=>L.length-(intOf i).toNat)
   case atStart=>exact ⟨0,by omega,rfl,HI1.out,HW1.out,HB1.out⟩
   case round =>
    obtain ⟨k,hk,rfl,hI,hWr,hBr⟩:=hrel;clear HI1 HW1 HB1
    by_cases hlt:k<L.length
    ·have hd2:decide ((k:Int)<(L.length:Int))=true:=by simpa using hlt
     obtain ⟨b',off',rfl,hb',hp⟩:=(h'.keep hBr).cells (by omega);have hget:L[k]?=some L[k]:=List.getElem?_eq_getElem hlt;obtain ⟨c0,c1⟩:=hp k _ hget
     have hko:k<O'.length:=by omega
     have hgo:O'[k]?=some O'[k]:=List.getElem?_eq_getElem hko;have hwz:=cZk hget hgo;have hlo:=SOK.each HL.out HS.out hget hgo;generalize L[k]=l at *;generalize O'[k]=o at *;have p0:=hI.cell hgo
     have hkn:(k:Int)<(no:Int):=by have:=HNL.out;omega
     have hs1:=hI.lt;obtain ⟨y,hy⟩:=uZk (B:=wtZ L O') (k:=k) (by rw [<- HWL.out];exact hlt);have HI:=hD hI;have HW:=hD hWr;have HB:=hD hBr;have HY:=hD hy;have HGO:=hD hgo;clear hI hWr hBr hp hget hgo hy
     by_cases e:l.mi<o
     ·have hz:decide (o>l.mi)=true:=by simpa using e
      rw [if_pos e] at hwz;have HWZ:=hD hwz;clear hwz
      go_wp2_with fail
      refine jZg 10 0 (·<10) (by kernel_rfl) (by kernel_rfl) rfl ?_
      iterate 10 (refine jZ3 (fun K hK=>?_);first|(refine kZr rfl ?_;go_simp;refine hK _ ?_;clear hK K)|(apply Exists.intro;refine ⟨.inl ⟨rfl,fun w' hw'=>?_⟩,?_⟩;(focus ((obtain ⟨hc,hf⟩:=kZi hw'.out);(have hcS:=kZq hw'.out);go_simp <;> first | rfl | fail));(go_simp;refine hK _ ?_;clear hK K)))
      refine jZ9 ?_;refine jZ1 (by kernel_rfl) (fun w5 hg5=>?_);have hb5:=jZs hg5.out;refine jZq (by kernel_rfl) ?_;refine kZ0.thn ?_;clear hg5;have HW5:=HW.out.keep hb5;have d0:=HW5.cell HY.out;have f0:=HW5.frozen k;have HW6:=HW5.set k l.wt;rw [uZ5 HWZ.out] at HW6;have HW6:=hD HW6;have HI6:=hD ((HI.out.keep hb5).but (tZ6 (tZy _ gw) k (.int .i64 l.wt)) (by omega))
      have HB6:=hD ((jZa HB.out hb5).setCell (p:=⟨gw,k,none⟩) (by show w.heap.size≤gw;omega) (.int .i64 l.wt));have e0:=(hb5.cell (p:=⟨b',off'+k*2,none⟩) hb').trans c0;have hb6:=Nat.lt_of_lt_of_le hb' hb5.size;clear HW5 hb5 HW HI HB c0 c1 p0;go_wp2
      go_roundw
      case rel=>exact ⟨k+1,by omega,by go_num,HI6.out,HW6.out,HB6.out⟩
      case measure=>simp [intOf];omega
     ·have hz:decide (o>l.mi)=false:=by simpa using e
      rw [if_neg e] at hwz;have HWZ:=hD hwz;clear hwz
      go_wp2_with fail
      refine jZg 10 0 (·<10) (by kernel_rfl) (by kernel_rfl) rfl ?_
      iterate 10 (refine jZ3 (fun K hK=>?_);first|(refine kZr rfl ?_;go_simp;refine hK _ ?_;clear hK K)|(apply Exists.intro;refine ⟨.inl ⟨rfl,fun w' hw'=>?_⟩,?_⟩;(focus ((obtain ⟨hc,hf⟩:=kZi hw'.out);(have hcS:=kZq hw'.out);go_simp <;> first | rfl | fail));(go_simp;refine hK _ ?_;clear hK K)))
      refine jZ9 ?_;refine jZ1 (by kernel_rfl) (fun w5 hg5=>?_);have hb5:=jZs hg5.out;refine jZq (by kernel_rfl) ?_;refine kZ0.thn ?_;clear hg5;have HW6:=HW.out.keep hb5;rw [<- mixM_skip HWZ.out] at HW6;have HW6:=hD HW6;have HI6:=hD (HI.out.keep hb5);have HB6:=hD (jZa HB.out hb5);clear hb5 HW HI HB;go_wp2
      go_roundw
      case rel=>exact ⟨k+1,by omega,by go_num,HI6.out,HW6.out,HB6.out⟩
      case measure=>simp [intOf];omega
    ·have hd2:decide ((k:Int)<(L.length:Int))=false:=decide_eq_false (by omega)
     obtain rfl:k=L.length:=by omega
     have hwl:=HWL.out;rw [hwl,uZd] at hWr;have HI:=hD hI;have HW:=hD hWr;have HB:=hD hBr;have HOK:=hD (wtZ_ok HL.out HS.out);clear hI hWr hBr hwl
     go_wp2_with fail
     with_reducible refine (eZ5 _ _ L.length (wtZ L O') _ HW.out.nv HWL.out (by omega) HOK.out.smal).mono ?_
     rintro e w5 ⟨rfl,rfl⟩
     by_cases hs:sumI (wtZ L O')=0
     ·have hz:(sumI (wtZ L O') == 0)=true:=by simpa using hs
      have HE:=hD (uZ9 (L:=L) (n:=n') (.inr hs));clear hs;go_wp2;go_ret;exact ⟨⟨g,cap,rfl,hbg,by rw [<- HR.out,HE.out];exact HI.out⟩,HB.out⟩
     ·have hz:(sumI (wtZ L O') == 0)=false:=by simpa using hs
      have HGO:=hD (shr_go HL.out HS.out hpos hs);have HRK:=hD (bZj HL.out HS.out hpos hs);clear hs
      go_wp2_with fail
      with_reducible refine (bZp _ _ L.length n' (wtZ L O') _ HW.out.nv HWL.out HOK.out hn0' (by omega)).mono ?_
      rintro e w5 ⟨rfl,hp5,hb5⟩;have HI5:=hD (HI.out.keep hb5);have HB5:=hD (jZa HB.out hb5);have HP:=hD hp5;have hgp:g<wr.heap.size:=HI.out.lt;have HPB:=hD (rZ8 (n:=n') hn0' HOK.out)
      have hpl:(jZt n' (wtZ L O')).length=L.length:=by rw [kZ5];exact HWL.out.symm
      have HPL:=hD hpl;clear hp5 hb5 hpl HI HW HB;generalize wr.heap.size=gp at *;generalize jZt n' (wtZ L O')=P at *
      go_wp2_with fail
      go_loopw [2,11] (fun nv i wr=>∃ k:Nat,k≤L.length∧i=.int .i64 k∧nv=.int .i64 (n'-tknZ L O' (P.take k))∧OB wr g cap (takZ L O' (P.take k))∧w5.grownBy wr (some g)) (fun _ i _=>L.length-(intOf i).toNat)
      case atStart=>exact ⟨0,by omega,rfl,by rw [List.take_zero,eZt,Int.sub_zero],by rw [List.take_zero,uZ4];exact HI5.out,tZy _ _⟩
      case round =>
       obtain ⟨k,hk,rfl,rfl,hI,hgr⟩:=hrel;clear HI5
       by_cases hlt:k<L.length
       ·have hd2:decide ((k:Int)<(L.length:Int))=true:=by simpa using hlt
        have hBr:=pZk HB5.out hgr hbg HB5.out.size;obtain ⟨b',off',rfl,hb',hq⟩:=(h'.keep hBr).cells (by omega);have hget:L[k]?=some L[k]:=List.getElem?_eq_getElem hlt;obtain ⟨c0,c1⟩:=hq k _ hget
        have hko:k<O'.length:=by omega
        have hgo:O'[k]?=some O'[k]:=List.getElem?_eq_getElem hko
        have hkp:k<P.length:=by have:=HPL.out;omega
        have hgq:P[k]?=some P[k]:=List.getElem?_eq_getElem hkp;have hlo:=SOK.each HL.out HS.out hget hgo;have hpb:=HPB.out _ (List.getElem_mem hkp)
        have hpt:∀ x∈P.take k,(0:Int)≤x∧x≤100000000000000:=fun x hx=>by have:=HPB.out x (List.mem_of_mem_take hx);omega
        have htb:=gZj (P:=P.take k) HS.out (fun x hx=>(hpt x hx).1);have hsb:=sZ0 hpt
        have hlt5:(P.take k).length≤5:=by rw [List.length_take];omega
        have hts:=bZ5 hget hgo hgq;have htk:=bZ2 hget hgo hgq;have hx0:(takZ L O' (P.take k))[k]?=some O'[k]:=dZ0 hgo (by rw [List.length_take];omega);generalize L[k]=l at *;generalize O'[k]=o at *;generalize P[k]=p at *;obtain ⟨hlo1,hlo2,hlo3,hlo4⟩:=hlo;obtain ⟨hp0,hp1⟩:=hpb;have q0:=(HP.out.but hgr (by omega)).cell hgq;have d0:=hI.cell hx0;have hs1:=hI.lt
        have hs2:=(HP.out.but hgr (by omega)).lt
        have hkn:(k:Int)<(no:Int):=by have:=HNL.out;omega
        have hwr:IntKind.i64.wrap (o-l.mi)=o-l.mi:=IntWalk.i64_in _ (by omega);have hmn:=jZz p (o-l.mi);have HX0:=hD hx0;have HI:=hD hI;have HG:=hD hgr;have HTS:=hD hts;have HTK:=hD htk;have HMN:=hD hmn;have ht00:0≤tknZ L O' (P.take k):=htb.1
        have ht01:tknZ L O' (P.take k)≤500000000000000:=by omega
        generalize tknZ L O' (P.take k)=t0 at *;clear hI hgr hBr hts htk hmn hx0 hget hgo hgq hq htb hsb hpt hlt5
        go_wp2_with fail
        refine jZg 15 1 (·<15) (by kernel_rfl) (by kernel_rfl) rfl ?_
        iterate 15 (refine jZ3 (fun K hK=>?_);first|(refine kZr rfl ?_;go_simp;refine hK _ ?_;clear hK K)|(apply Exists.intro;refine ⟨.inl ⟨rfl,fun w' hw'=>?_⟩,?_⟩;(focus ((obtain ⟨hc,hf⟩:=kZi hw'.out);(have hcS:=kZq hw'.out);go_simp <;> first | rfl | fail));(go_simp;refine hK _ ?_;clear hK K)))
        refine jZ9 ?_;refine jZ1 (by kernel_rfl) (fun w7 hg7=>?_);have hb7:=jZs hg7.out;obtain ⟨hc7,hf7⟩:=kZi hb7;refine jZn (i:=15) (by kernel_rfl) rfl rfl ?_;go_simp;refine jZq (by kernel_rfl) ?_;refine kZ0.thn ?_;clear hc7 hf7;clear hg7
        obtain ⟨t,ht⟩:∃ t,mn p (o-l.mi)=t:=⟨_,rfl⟩
        have hmn:=HMN.out;have HTS2:=HTS.out;have HTK2:=HTK.out;rw [ht] at hmn HTS2 HTK2;rw [ht];have HI7:=HI.out.keep hb7;have d7:=HI7.cell HX0.out;have f7:=HI7.frozen k;have HI8:=HI7.set k (o-t) (by rw [takZ_len];exact hko);rw [HTS2] at HI8;have HI8:=hD HI8;have HG8:=hD (tZ6 (qZa HG.out hb7) k (.int .i64 (o-t)));have HTK2:=hD HTK2
        have ht0:0≤t:=by omega
        have ht1:t≤p:=hmn.1;clear HI7 HTS2 hb7 hmn ht HMN HTS HTK HI HG;go_wp2
        go_roundw
        case rel=>exact ⟨k+1,by omega,by go_num,by rw [HTK2.out];go_num,HI8.out,HG8.out⟩
        case measure=>simp [intOf];omega
       ·have hd2:decide ((k:Int)<(L.length:Int))=false:=decide_eq_false (by omega);have hke:P.take k=P:=List.take_of_length_le (by have:=HPL.out;omega);rw [hke] at hI ⊢;obtain ⟨hr1,hr2,hr3,hr4⟩:=HRK.out;have HI6:=hD hI;have HB6:=hD (pZk HB5.out hgr hbg HB5.out.size);have HS6:=hD hr4;clear hI hgr hke hr1 hr4;go_wp2
        go_roundw
        case rel=>exact ⟨_,_,rfl,by omega,by omega,HS6.out,HI6.out,by rw [<- HGO.out];exact HR.out,HB6.out⟩
        case measure=>simp [intOf];omega
  ·have hd:decide (n'>0)=false:=by simpa using hpos
   have HE:=hD (uZ9 (L:=L) (O:=O') (n:=n') (.inl (by omega)));go_wp2;go_ret;exact ⟨⟨g,cap,rfl,hbg,by rw [<- HR.out,HE.out];exact HI.out⟩,HB.out⟩
end
section
attribute [local go_sem 5000] kZk kZj
def cZg (L:List Ln) (O:List Int) (room:Int):List Int :=
 if room-sumI O<0 then shrZ L (-(room-sumI O)) O
 else if sumI (L.map Ln.wt)=0 then O
 else qZg O 0 (jZt (room-sumI O) (L.map Ln.wt))
theorem sized_w (B:Option Addr) (c no:Nat) (O:List Int) (A':Option Addr) (c':Nat) (L:List Ln) (room:Int) (w:World) (h:NV w B O) (hno:no=O.length) (h':LnV w A' L) (hL:kZd L=true) (hS:SOK L O) (hO:∀ x∈O,0≤x∧x≤100000000000000) (hs0:0≤sumI O) (hs1:sumI O≤10000000000350) (hr0:0≤room) (hr1:room≤20000000000000) :
  Calls Tryz.prog 171 #[.slice A' L.length c',.slice B no c,.int .i64 room] w fun e w'=>(∃ g cap,e=.returned (.slice (some ⟨g,0,none⟩) no cap)∧w.heap.size≤g∧OB w' g cap (cZg L O room))∧Below w.heap.size w w':=by
 obtain ⟨hl1,hl5⟩:=kZz hL;have hol:=hS.len
 have hno5:no≤5:=by omega
 have hno1:1≤no:=by omega
 have hww:=(tZw hL).2;have hws:=hww.sum;have HSM:=hD (tZ2 (L:=O) (b:=100000000000000) (M:=1000000000000000) (fun x hx=>by have:=hO x hx;omega) (by omega) (by omega));have HWW:=hD hww;have HO:=hD hO;have HL:=hD hL;have HS:=hD hS;have HNO:=hD hno;have HNL:=hD (show no=L.length by omega);obtain ⟨ti,tz,ti1,ti2,ti3,ti4,ti5⟩:=rZx;obtain ⟨b,off,rfl,hb,hp⟩:=h.cells (by omega);have HPP:=hD hp
 clear hww hO hL hS hol hno hp
 go_enter Tryz.func171,Tryz.ntmps171
 go_wp2_with fail
 with_reducible refine (eZ5 _ _ no O _ h HNO.out (by omega) HSM.out).mono ?_
 rintro e w3 ⟨rfl,rfl⟩
 obtain ⟨q,hq⟩:∃ q,sumI O=q:=⟨_,rfl⟩
 rw [hq] at hs0 hs1;rw [hq];have HQ:=hD hq;clear hq
 by_cases hneg:room-q<0
 ·have hd:decide (room-q<0)=true:=by simpa using hneg
  have he:cZg L O room=shrZ L (-(room-q)) O:=by unfold cZg;rw [HQ.out,if_pos hneg]
  have HE:=hD he;clear he
  go_wp2_with fail
  refine (sshrunk_v _ _ no O _ _ L _ _ h HNO.out h' HL.out HS.out (by omega) (by omega)).mono ?_;rintro e w5 ⟨⟨g,cap,rfl,hg,hi5⟩,hb5⟩;have HB5:=hD hb5
  first | rw [<- HE.out] at hi5|(rw [show q-room=-(room-q) from by omega,<- HE.out] at hi5)|(rw [show 0-(room-q)=-(room-q) from by omega,<- HE.out] at hi5)
  have HI5:=hD hi5;clear hi5 hb5;go_wp2;go_ret;exact ⟨⟨g,cap,rfl,hg,HI5.out⟩,HB5.out⟩
 ·have hd:decide (room-q<0)=false:=by simpa using hneg
  have hB0:Below w.heap.size w (w.alloc (.cells #[] 3 (0,0))):=jZd (Below.refl _ _)
  have hsrc:∀ j v,(kZt O)[j]?=some v→(w.alloc (.cells #[] 3 (0,0))).cell? ((⟨b,off,none⟩:Addr).add j)=some v:=fun j v hj=>by
   unfold kZt at hj;rw [List.getElem?_map] at hj
   cases ho:O[j]? with
   | none=>rw [ho] at hj;cases hj
   | some x =>
    rw [ho] at hj;obtain rfl:=Option.some.inj hj;rw [bZh];exact (hB0.cell (p:=⟨b,off+j,none⟩) hb).trans (HPP.out j x ho)
  have ho0:(w.alloc (.cells #[] 3 (0,0))).ownsRow w.heap.size 3 1 (.slice (some ⟨w.heap.size,0,none⟩) 0 0) 0 (kZt []):=World.ownsRow_lit (base:=w.heap.size) (e:=3) (size:=1) w #[] 0 (Nat.le_refl _) (by decide) rfl;have hob:=ho0.lt;have HO0:=hD ho0;have HSRC:=hD hsrc;have HB0:=hD hB0
  have h1c:∀ v∈kZt O,v.oneCell'=true:=by simp [kZt,Value.oneCell']
  have hnl:(kZt O).length=no:=by simp [kZt,HNO.out]
  have HNV:=hD hnl;clear hsrc hB0 ho0 hnl
  go_wp2_with (at_builtin;refine wpList_append_own _ rfl _ _ 47 rfl w.heap.size 3 ti tz 1 8 Tryz.underlying47 ti1 ti2 ti3 ti4 ti5 (by decide) _ _ _ rfl HO0.out ⟨b,off,none⟩ no c (kZt O) rfl (by rw [HNV.out,Nat.mul_one]) HSRC.out h1c (by simp only [maxLen];omega) (by omega) (by simp) ?_)
  intro v5 w5 how5 hgr5 _
  have hnv0:kZt [] ++ kZt O=kZt O:=by simp [kZt]
  simp only [hnv0,Nat.zero_add] at how5;have HB5:=hD (vZb HB0.out hgr5 hob (Nat.le_refl _) (Nat.le_refl _))
  rcases vZk how5 HNO.out with ⟨rfl,hM⟩ | ⟨g,cap,rfl,hbg,hOB⟩
  ·have:O.length=0:=by rw [hM];rfl
   have:=HNO.out
   omega
  have HI:=hD hOB;clear how5 hgr5 hnv0 HO0 HSRC HB0 hob hOB h1c;have HLV:=hD (h'.keep HB5.out)
  go_wp2_with fail
  refine (tZ9 _ _ L.length L _ HLV.out rfl (by omega)).mono ?_;rintro e w6 ⟨⟨A2,c2,rfl,hn6⟩,hb6⟩;have HN6:=hD hn6;replace HI:=hD (HI.out.keep hb6);replace HB5:=hD (jZa HB5.out hb6);clear hn6 hb6 HLV
  go_wp2_with fail
  with_reducible refine (eZ5 _ _ L.length (L.map Ln.wt) _ HN6.out (by simp) (by omega) HWW.out.smal).mono ?_
  rintro e w7 ⟨rfl,rfl⟩
  by_cases hz0:sumI (L.map Ln.wt)=0
  ·have hz:(sumI (L.map Ln.wt) == 0)=true:=by simpa using hz0
   have he:cZg L O room=O:=by unfold cZg;rw [HQ.out,if_neg (by omega),if_pos hz0]
   have HE:=hD he;clear he hz0;go_wp2;go_ret;exact ⟨⟨g,cap,rfl,hbg,by rw [HE.out];exact HI.out⟩,HB5.out⟩
  ·have hz:(sumI (L.map Ln.wt) == 0)=false:=by simpa using hz0
   have he:cZg L O room=qZg O 0 (jZt (room-q) (L.map Ln.wt)):=by unfold cZg;rw [HQ.out,if_neg (by omega),if_neg hz0]
   have HE:=hD he;have HLV:=hD (h'.keep HB5.out);clear he hz0
   go_wp2_with fail
   refine (tZ9 _ _ L.length L _ HLV.out rfl (by omega)).mono ?_;rintro e w8 ⟨⟨A3,c3,rfl,hn8⟩,hb8⟩;have HN8:=hD hn8;replace HI:=hD (HI.out.keep hb8);replace HB5:=hD (jZa HB5.out hb8);clear hn8 hb8 HLV HN6
   go_wp2_with fail
   refine (bZp _ _ L.length (room-q) (L.map Ln.wt) _ HN8.out (by simp) HWW.out (by omega) (by omega)).mono ?_;rintro e w9 ⟨rfl,hp9,hb9⟩;have hgp:=HI.out.lt;have HP:=hD hp9;replace HI:=hD (HI.out.keep hb9);replace HB5:=hD (jZa HB5.out hb9);have HPB:=hD (rZ8 (n:=room-q) (by omega) HWW.out)
   have HPL:=hD (show (jZt (room-q) (L.map Ln.wt)).length=no by rw [kZ5,List.length_map,HNL.out]);clear hp9 hb9 HN8;generalize w8.heap.size=gp at *;generalize jZt (room-q) (L.map Ln.wt)=P at *
   go_wp2_with fail
   go_loopw [10] (fun i wr=>∃ k:Nat,k≤no∧i=.int .i64 k∧OB wr g cap (qZg O 0 (P.take k))∧w9.grownBy wr (some g)) (fun i _=>no-(intOf i).toNat)
   case atStart=>exact ⟨0,by omega,rfl,by rw [List.take_zero,bZq];exact HI.out,tZy _ _⟩
   case round =>
    obtain ⟨k,hk,rfl,hI,hgr⟩:=hrel;clear HI
    by_cases hlt:k<no
    ·have hd2:decide ((k:Int)<(no:Int))=true:=by simpa using hlt
     have hkp:k<P.length:=by have:=HPL.out;omega
     have hgq:P[k]?=some P[k]:=List.getElem?_eq_getElem hkp
     have hko:0+k<O.length:=by have:=HNO.out;omega
     have hgo:O[0+k]?=some O[0+k]:=List.getElem?_eq_getElem hko;have hpb:=HPB.out _ (List.getElem_mem hkp);have hob:=HO.out _ (List.getElem_mem hko);generalize P[k]=p at *;generalize O[0+k]=o at *;obtain ⟨hp0,hp1⟩:=hpb;obtain ⟨ho0,ho1⟩:=hob;have hx0:=cZh hgo (P:=P.take k) (by rw [List.length_take];omega);have has:=vZn hgo hgq;rw [Nat.zero_add] at hx0 has
     have q0:=(HP.out.but hgr (by omega)).cell hgq;have d0:=hI.cell hx0;have hs2:=hI.lt;have hs3:=(HP.out.but hgr (by omega)).lt
     have hkl:(k:Int)<(L.length:Int):=by have:=HNL.out;omega
     have hwr3:IntKind.i64.wrap (o+p)=o+p:=IntWalk.i64_in _ (by omega)
     have hal3:k<(qZg O 0 (P.take k)).length:=by rw [uZ6];omega
     have HX0:=hD hx0;have HI6:=hD hI;have HG6:=hD hgr;have HAS:=hD has;clear hI hgr hgq hgo hx0 has
     go_wp2_with fail
     refine jZg 12 1 (·<12) (by kernel_rfl) (by kernel_rfl) rfl ?_
     iterate 12 (refine jZ3 (fun K hK=>?_);first|(refine kZr rfl ?_;go_simp;refine hK _ ?_;clear hK K)|(apply Exists.intro;refine ⟨.inl ⟨rfl,fun w' hw'=>?_⟩,?_⟩;(focus ((obtain ⟨hc,hf⟩:=kZi hw'.out);(have hcS:=kZq hw'.out);go_simp <;> rfl));(go_simp;refine hK _ ?_;clear hK K)))
     refine jZ9 ?_;refine jZ1 (by kernel_rfl) (fun w7 hg7=>?_);have hb7:=jZs hg7.out;have HI7:=HI6.out.keep hb7;have d7:=HI7.cell HX0.out;have f7:=HI7.frozen k;have HI8:=HI7.set k (o+p) hal3;rw [HAS.out] at HI8;have HI8:=hD HI8;have HG8:=hD (tZ6 (qZa HG6.out hb7) k (.int .i64 (o+p)));clear HI7;refine jZn (i:=12) (by kernel_rfl) rfl rfl ?_;go_simp
     refine jZq (by kernel_rfl) ?_;refine sZs ?_;clear hb7 hg7;go_wp2
     go_roundw
     case rel=>exact ⟨k+1,by omega,by go_num,HI8.out,HG8.out⟩
     case measure=>simp [intOf];omega
    ·have hd2:decide ((k:Int)<(no:Int))=false:=decide_eq_false (by omega);have hke:P.take k=P:=List.take_of_length_le (by have:=HPL.out;omega);rw [hke,<- HE.out] at hI;have HI6:=hD hI;have HB6:=hD (pZk HB5.out hgr hbg HB5.out.size);clear hI hgr hke;go_wp2;go_ret;exact ⟨⟨g,cap,rfl,hbg,HI6.out⟩,HB6.out⟩
end
def qZe:List Sp→List Value
 | []=>[]
 | r :: t=>pZ4 r ++ qZe t
theorem cZu (A B:List Sp):qZe (A ++ B)=qZe A ++ qZe B:=by
 induction A with
 | nil=>rfl
 | cons r t ih=>simp [qZe,ih]
theorem vZu {M:List Sp} {k:Nat} {r:Sp} (h:M[k]?=some r):qZe (M.take k) ++ pZ4 r=qZe (M.take (k+1)):=by
 rw [List.take_add_one,h,Option.toList,cZu];simp [qZe]
theorem cZl:∀ {M:List Sp} {i:Nat} {r:Sp},M[i]?=some r→∀ j,j<3→(qZe M)[i*3+j]?=(pZ4 r)[j]?
 | [],i,r,h,_,_=>by simp at h
 | q :: t,0,r,h,j,hj=>by
  simp at h;subst h
  show (pZ4 q ++ qZe t)[0*3+j]?=_
  rw [List.getElem?_append_left (by simp [pZ4];omega)];simp
 | q :: t,i+1,r,h,j,hj=>by
  show (pZ4 q ++ qZe t)[(i+1)*3+j]?=_
  rw [List.getElem?_append_right (by simp [pZ4];omega)]
  have:=cZl (M:=t) (i:=i) (r:=r) (by simpa using h) j hj
  rw [<- this];congr 1;simp [pZ4];omega
def SpR (w:World) (v:Value) (L:List Sp):Prop:=∃ A c,v=.slice A L.length c∧SpV w A L
theorem SpR.keep {w w':World} {v:Value} {L:List Sp} (h:SpR w v L) (hb:Below w.heap.size w w'):SpR w' v L:=let ⟨A,c,e,n⟩:=h;⟨A,c,e,n.keep hb⟩
theorem SpR.own {w:World} {base n:Nat} {v:Value} {M:List Sp} {T:TypeId} (h:w.ownsRow base T 3 v n (qZe M)) (hn:n=M.length):SpR w v M:=by
 subst hn;have hl:=h.lt
 have hc:=fun g hg=>h.cells (g:=g) hg
 rcases h.2 with ⟨rfl,h0⟩ | ⟨g,cap,cur,rfl,_⟩
 ·exact ⟨none,0,by rw [h0],⟨fun h=>absurd h (by omega)⟩⟩
 ·refine ⟨_,cap,rfl,⟨fun _=>⟨g,0,rfl,(hl g rfl).2,fun i r hr=>?_⟩⟩⟩
  have e:∀ j,j<3→∀ u,(pZ4 r)[j]?=some u→w.cell? ⟨g,0+i*3+j,none⟩=some u:=fun j hj u hu=>by
   have h1:=hc g rfl (i*3+j) u ((cZl hr j hj).trans hu)
   have hadd:(⟨g,0,none⟩:Addr).add (i*3+j)=⟨g,i*3+j,none⟩:=by unfold Addr.add;split <;> simp_all
   rw [hadd] at h1
   rwa [Nat.zero_add]
  exact ⟨e 0 (by omega) _ rfl,e 1 (by omega) _ rfl,e 2 (by omega) _ rfl⟩
theorem dZe:∃ (i:TypeInfo) (z:Value),Tryz.prog.info? 191=some i∧i.zero=some z∧i.size=3∧i.bytes=24∧z.cells.size=3:=by
 have hinfo:(Tryz.prog.info? 191).map (fun i=>(i.zero,i.size,i.bytes))=some (some (.agg #[.int .i64 0,.int .i64 0,.int .i64 0]),3,24):=by kernel_rfl
 obtain ⟨i,hi,h1,h2,h3⟩:=info_parts hinfo;exact ⟨i,_,hi,h1,h2,h3,rfl⟩
theorem newSp3 (W:World) (r:Sp) (T:TypeId):∀ (j:Nat) (u:Value),(pZ4 r)[j]?=some u→(W.alloc (.cells #[.int .i64 r.sa,.int .i64 r.many,.int .i64 r.need] T)).cell? ((⟨W.heap.size,0,none⟩:Addr).add j)=some u:=fun j u h=>by
 have hadd:(⟨W.heap.size,0,none⟩:Addr).add j=⟨W.heap.size,j,none⟩:=by unfold Addr.add;split <;> simp_all
 rw [hadd];exact (jZc (newS W _) j).trans (by simpa [pZ4] using h)
theorem dZr (r:Sp):∀ u∈pZ4 r,u.oneCell'=true:=by intro u hu;simp [pZ4] at hu;rcases hu with rfl | rfl | rfl <;> rfl
theorem rZh {w w':World} {base:Nat} {e:TypeId} {size:Nat} {v:Value} {n:Nat} {xs:List Value} (h:w.ownsRow base e size v n xs) (hb:Below w.heap.size w w'):w'.ownsRow base e size v n xs :=
 h.kept (row:=none) ⟨hb.os,hb.tape,hb.output,hb.size,fun k hk _=>hb.block k hk⟩ (by cases v.ownBlock <;> simp)
theorem dZn (A1 A2 A3:Option Addr) (c1 n1 c2 n2 c3:Nat) (L:List Ce) (w:World) (h:CeV w A3 L) (hL:L.length≤10) (hsm:∀ p∈L,smW p) :
  Calls Tryz.prog 153 #[.agg #[.slice A1 n1 c1,.slice A2 n2 c2,.slice A3 L.length c3]] w fun e w'=>(∃ v,e=.returned v∧SpR w' v (L.map acM))∧Below w.heap.size w w':=by
 obtain ⟨ti,tz,ti1,ti2,ti3,ti4,ti5⟩:=dZe;have HSM:=hD hsm;clear hsm;have ho0:=World.ownsRow_lit (base:=(w.alloc (.cells #[.slice A1 n1 c1,.slice A2 n2 c2,.slice A3 L.length c3] 128 (0,0))).heap.size) (e:=191) (size:=3) (w.alloc (.cells #[.slice A1 n1 c1,.slice A2 n2 c2,.slice A3 L.length c3] 128 (0,0))) #[] 0 (Nat.le_refl _) (by decide) rfl;rw [World.size_alloc] at ho0
 have HO:=hD (show ((w.alloc (.cells #[.slice A1 n1 c1,.slice A2 n2 c2,.slice A3 L.length c3] 128 (0,0))).alloc (.cells #[] 191 (0,0))).ownsRow (w.heap.size+1) 191 3 (.slice (some ⟨w.heap.size+1,0,none⟩) 0 0) 0 (qZe []) from ho0)
 have HG:=hD ((Below.heap_alloc (w.alloc (.cells #[.slice A1 n1 c1,.slice A2 n2 c2,.slice A3 L.length c3] 128 (0,0))) (.cells #[] 191 (0,0)) w.heap.size (by simp)).trans (newS w (.cells #[.slice A1 n1 c1,.slice A2 n2 c2,.slice A3 L.length c3] 128 (0,0))))
 have HB:=hD (jZd (o:=(.cells #[] 191 (0,0))) (jZd (o:=(.cells #[.slice A1 n1 c1,.slice A2 n2 c2,.slice A3 L.length c3] 128 (0,0))) (Below.refl w.heap.size w)));clear ho0
 go_enter Tryz.func153,Tryz.ntmps153
 go_wp2_with fail
 go_loopw [3,4] (fun out i wr=>∃ k:Nat,k≤L.length∧i=.int .i64 k∧wr.ownsRow (w.heap.size+1) 191 3 out k (qZe ((L.map acM).take k))∧wr.heap[w.heap.size]?=some (.cells #[.slice A1 n1 c1,.slice A2 n2 c2,.slice A3 L.length c3] 128 (0,0))∧Below w.heap.size w wr) (fun _ i _=>L.length-(intOf i).toNat)
 case atStart=>exact ⟨0,by omega,rfl,HO.out,HG.out,HB.out⟩
 case round =>
  obtain ⟨k,hk,rfl,ho,hg,hB⟩:=hrel;clear HO HB HG;have g2:=jZc hg 2
  by_cases hlt:k<L.length
  ·have hd:decide ((k:Int)<(L.length:Int))=true:=by simpa using hlt
   obtain ⟨b,off,rfl,hb,hp⟩:=(h.keep hB).cells (by omega);have hget:L[k]?=some L[k]:=List.getElem?_eq_getElem hlt;obtain ⟨d0,d1,d2,d3,d4,d5,d6,d7,d8⟩:=hp k _ hget;have hsk:smW L[k]:=HSM.out _ (List.getElem_mem hlt);generalize hx:L[k]=p at *;have HTS:=hD (vZu (show (L.map acM)[k]?=some (acM p) by rw [List.getElem?_map,hget];rfl));have hob:=ho.lt;have HO:=hD ho;have HB:=hD hB;have HG:=hD hg
   clear ho hB hg hp hget hx
   go_upto_region 6 with (fail)
   refine kZf (fun W=>W.heap[wr.heap.size]?=some (.cells #[.int .i64 p.co,.int .i64 p.ro,.int .i64 p.mc,.int .i64 p.mr,.int .i64 p.cw,.int .i64 p.ch,.int .i64 p.sk,.int .i64 p.px,.int .i64 p.py] 39 (0,0))∧Below wr.heap.size wr W) ⟨newS _ _,jZd (Below.refl _ _)⟩ (fun W h0=>?_);clear d0 d1 d2 d3 d4 d5 d6 d7 d8 g2;obtain ⟨hx,hbW⟩:=h0;have x0:=jZc hx 0;have x1:=jZc hx 2;have x2:=jZc hx 4
   have x3:=jZc hx 7;have hlg:=ltS HG.out;have hsW:=hbW.size;replace HO:=hD (rZh HO.out hbW);replace HG:=hD ((hbW.block _ hlg).trans HG.out);replace HB:=hD (jZa HB.out hbW);obtain ⟨⟨b1,b2⟩,⟨b3,b4⟩,⟨b5,b6⟩,⟨b7,b8⟩⟩:=hsk;clear hx hbW
   go_wp2_with (at_builtin;refine wpList_append_own _ rfl _ _ 173 rfl (w.heap.size+1) 191 ti tz 3 24 Tryz.underlying173 ti1 ti2 ti3 ti4 ti5 (by decide) _ _ _ rfl (HO.out.alloc _) ⟨W.heap.size,0,none⟩ 1 1 (pZ4 (acM p)) rfl rfl (newSp3 _ (acM p) _) (dZr _) (by simp only [maxLen];omega) (by omega) (by simp;omega) ?_)
   intro v5 w5 how5 hgr5 _;rw [HTS.out] at how5;have hg5:=(hgr5.block w.heap.size (by simp;omega) (fun e=>by have:=hob _ e.symm;omega)).trans ((Below.heap_alloc _ _ _ (by omega)).trans HG.out);replace HB:=hD (qZr HB.out hgr5 hob (by omega) (Nat.le_refl _));replace HO:=hD how5;replace HG:=hD hg5;clear how5 hgr5 hob x0 x1 x2 x3 hg5;go_wp2
   go_roundw
   case rel=>exact ⟨k+1,by omega,by go_num,by simpa using HO.out,HG.out,HB.out⟩
   case measure=>simp [intOf];omega
  ·have hd:decide ((k:Int)<(L.length:Int))=false:=decide_eq_false (by omega)
   obtain rfl:k=L.length:=by omega
   have he:(L.map acM).take L.length=L.map acM:=List.take_of_length_le (by simp);rw [he] at ho;have HR:=hD (SpR.own ho (by simp));have HB:=hD hB;clear ho hB he hg;go_wp2;go_ret;exact ⟨⟨_,rfl,HR.out⟩,HB.out⟩
theorem dZo (A1 A2 A3:Option Addr) (c1 n1 c2 n2 c3:Nat) (L:List Ce) (w:World) (h:CeV w A3 L) (hL:L.length≤10) (hsm:∀ p∈L,smW p) :
  Calls Tryz.prog 154 #[.agg #[.slice A1 n1 c1,.slice A2 n2 c2,.slice A3 L.length c3]] w fun e w'=>(∃ v,e=.returned v∧SpR w' v (L.map dnM))∧Below w.heap.size w w':=by
 obtain ⟨ti,tz,ti1,ti2,ti3,ti4,ti5⟩:=dZe;have HSM:=hD hsm;clear hsm;have ho0:=World.ownsRow_lit (base:=(w.alloc (.cells #[.slice A1 n1 c1,.slice A2 n2 c2,.slice A3 L.length c3] 128 (0,0))).heap.size) (e:=191) (size:=3) (w.alloc (.cells #[.slice A1 n1 c1,.slice A2 n2 c2,.slice A3 L.length c3] 128 (0,0))) #[] 0 (Nat.le_refl _) (by decide) rfl;rw [World.size_alloc] at ho0
 have HO:=hD (show ((w.alloc (.cells #[.slice A1 n1 c1,.slice A2 n2 c2,.slice A3 L.length c3] 128 (0,0))).alloc (.cells #[] 191 (0,0))).ownsRow (w.heap.size+1) 191 3 (.slice (some ⟨w.heap.size+1,0,none⟩) 0 0) 0 (qZe []) from ho0)
 have HG:=hD ((Below.heap_alloc (w.alloc (.cells #[.slice A1 n1 c1,.slice A2 n2 c2,.slice A3 L.length c3] 128 (0,0))) (.cells #[] 191 (0,0)) w.heap.size (by simp)).trans (newS w (.cells #[.slice A1 n1 c1,.slice A2 n2 c2,.slice A3 L.length c3] 128 (0,0))))
 have HB:=hD (jZd (o:=(.cells #[] 191 (0,0))) (jZd (o:=(.cells #[.slice A1 n1 c1,.slice A2 n2 c2,.slice A3 L.length c3] 128 (0,0))) (Below.refl w.heap.size w)));clear ho0
 go_enter Tryz.func154,Tryz.ntmps154
 go_wp2_with fail
 go_loopw [3,4] (fun out i wr=>∃ k:Nat,k≤L.length∧i=.int .i64 k∧wr.ownsRow (w.heap.size+1) 191 3 out k (qZe ((L.map dnM).take k))∧wr.heap[w.heap.size]?=some (.cells #[.slice A1 n1 c1,.slice A2 n2 c2,.slice A3 L.length c3] 128 (0,0))∧Below w.heap.size w wr) (fun _ i _=>L.length-(intOf i).toNat)
 case atStart=>exact ⟨0,by omega,rfl,HO.out,HG.out,HB.out⟩
 case round =>
  obtain ⟨k,hk,rfl,ho,hg,hB⟩:=hrel;clear HO HB HG;have g2:=jZc hg 2
  by_cases hlt:k<L.length
  ·have hd:decide ((k:Int)<(L.length:Int))=true:=by simpa using hlt
   obtain ⟨b,off,rfl,hb,hp⟩:=(h.keep hB).cells (by omega);have hget:L[k]?=some L[k]:=List.getElem?_eq_getElem hlt;obtain ⟨d0,d1,d2,d3,d4,d5,d6,d7,d8⟩:=hp k _ hget;have hsk:smW L[k]:=HSM.out _ (List.getElem_mem hlt);generalize hx:L[k]=p at *;have HTS:=hD (vZu (show (L.map dnM)[k]?=some (dnM p) by rw [List.getElem?_map,hget];rfl));have hob:=ho.lt;have HO:=hD ho;have HB:=hD hB;have HG:=hD hg
   clear ho hB hg hp hget hx
   go_upto_region 6 with (fail)
   refine kZf (fun W=>W.heap[wr.heap.size]?=some (.cells #[.int .i64 p.co,.int .i64 p.ro,.int .i64 p.mc,.int .i64 p.mr,.int .i64 p.cw,.int .i64 p.ch,.int .i64 p.sk,.int .i64 p.px,.int .i64 p.py] 39 (0,0))∧Below wr.heap.size wr W) ⟨newS _ _,jZd (Below.refl _ _)⟩ (fun W h0=>?_);clear d0 d1 d2 d3 d4 d5 d6 d7 d8 g2;obtain ⟨hx,hbW⟩:=h0;have x0:=jZc hx 1;have x1:=jZc hx 3;have x2:=jZc hx 5
   have x3:=jZc hx 8;have hlg:=ltS HG.out;have hsW:=hbW.size;replace HO:=hD (rZh HO.out hbW);replace HG:=hD ((hbW.block _ hlg).trans HG.out);replace HB:=hD (jZa HB.out hbW);obtain ⟨⟨b1,b2⟩,⟨b3,b4⟩,⟨b5,b6⟩,⟨b7,b8⟩⟩:=hsk;clear hx hbW
   go_wp2_with (at_builtin;refine wpList_append_own _ rfl _ _ 173 rfl (w.heap.size+1) 191 ti tz 3 24 Tryz.underlying173 ti1 ti2 ti3 ti4 ti5 (by decide) _ _ _ rfl (HO.out.alloc _) ⟨W.heap.size,0,none⟩ 1 1 (pZ4 (dnM p)) rfl rfl (newSp3 _ (dnM p) _) (dZr _) (by simp only [maxLen];omega) (by omega) (by simp;omega) ?_)
   intro v5 w5 how5 hgr5 _;rw [HTS.out] at how5;have hg5:=(hgr5.block w.heap.size (by simp;omega) (fun e=>by have:=hob _ e.symm;omega)).trans ((Below.heap_alloc _ _ _ (by omega)).trans HG.out);replace HB:=hD (qZr HB.out hgr5 hob (by omega) (Nat.le_refl _));replace HO:=hD how5;replace HG:=hD hg5;clear how5 hgr5 hob x0 x1 x2 x3 hg5;go_wp2
   go_roundw
   case rel=>exact ⟨k+1,by omega,by go_num,by simpa using HO.out,HG.out,HB.out⟩
   case measure=>simp [intOf];omega
  ·have hd:decide ((k:Int)<(L.length:Int))=false:=decide_eq_false (by omega)
   obtain rfl:k=L.length:=by omega
   have he:(L.map dnM).take L.length=L.map dnM:=List.take_of_length_le (by simp);rw [he] at ho;have HR:=hD (SpR.own ho (by simp));have HB:=hD hB;clear ho hB he hg;go_wp2;go_ret;exact ⟨⟨_,rfl,HR.out⟩,HB.out⟩
section
attribute [local go_sem] jZ0 jZ5 jZ2
def NRz (w:World) (v:Value) (n:Nat) (L:List Int):Prop:=∃ A c,v=.slice A n c∧NV w A L
theorem NRz.keep {w w':World} {v:Value} {n:Nat} {L:List Int} (h:NRz w v n L) (hb:Below w.heap.size w w'):NRz w' v n L:=let ⟨A,c,e,q⟩:=h;⟨A,c,e,q.keep hb⟩
theorem eZk (A1:Option Addr) (c1:Nat) (L1:List Ln) (A2:Option Addr) (c2:Nat) (L2:List Ln) (A3:Option Addr) (c3:Nat) (L3:List Ce) (w:World) (h1:LnV w A1 L1) (h2:LnV w A2 L2) (h3:CeV w A3 L3) (v1:kZd L1=true) (v2:kZd L2=true) (hl8:L3.length≤10) (hsm:∀ p∈L3,smW p) (hs1:pZ7 L1.length (L3.map acM)) (hs2:pZ7 L2.length (L3.map dnM)) :
  Calls Tryz.prog 207 #[.agg #[.slice A1 L1.length c1,.slice A2 L2.length c2,.slice A3 L3.length c3]] w fun e w'=>e=.returned (.tuple #[.int .i64 (sumI (kZl L1 (L3.map acM))),.int .i64 (sumI (kZl L2 (L3.map dnM)))])∧Below w.heap.size w w':=by
 obtain ⟨m1,q1⟩:=tZo v1 hs1;obtain ⟨m2,q2⟩:=tZo v2 hs2;have n1:=(kZz v1).2;have n2:=(kZz v2).2;have hB0:Below w.heap.size w (w.alloc (.cells #[.slice A1 L1.length c1,.slice A2 L2.length c2,.slice A3 L3.length c3] 128 (0,0))):=jZd (Below.refl _ _);have hx0:=newS w (.cells #[.slice A1 L1.length c1,.slice A2 L2.length c2,.slice A3 L3.length c3] 128 (0,0))
 have HV1:=hD (h1.keep hB0);have HV2:=hD (h2.keep hB0);have HV3:=hD (h3.keep hB0);have HX:=hD hx0;have HB:=hD hB0;have HS1:=hD v1;have HS2:=hD v2;have HM1:=hD m1;have HM2:=hD m2;have HSM:=hD hsm;have HK1:=hD hs1;have HK2:=hD hs2;have HL1:=hD q1;have HL2:=hD q2;clear hB0 hx0 h1 h2 h3 v1 v2 m1 m2 hsm hs1 hs2 q1 q2
 go_enter Tryz.func207,Tryz.ntmps207
 have d0:=jZc HX.out 0;have d1:=jZc HX.out 1;have d2:=jZc HX.out 2;have lx:=ltS HX.out
 go_wp2_with fail
 refine kZ8 (XV (.pointer (some ⟨w.heap.size,0,none⟩)) :: XV (.slice A1 L1.length c1) :: XV (.pointer (some ⟨w.heap.size,2,none⟩)) :: XV (.slice A3 L3.length c3) :: (fun v w=>SpR w v (L3.map acM)) :: (fun v w=>NRz w v L1.length (kZl L1 (L3.map acM))) :: (fun v w=>NRz w v L1.length (kZl L1 (L3.map acM))) :: []) (by kernel_rfl) (by kernel_rfl) ?hTs ?hops ?hfin
 case hTs =>
  intro T hT;simp only [List.mem_cons,List.not_mem_nil,or_false] at hT
  rcases hT with rfl | rfl | rfl | rfl | rfl | rfl | rfl <;> first | exact qZn _ | exact qZo | exact kZh (fun v a b x g=>x.keep g) | exact kZh (fun v a b x g=>x)
 case hops =>
  refine ⟨jZb [(1,none)] (by kernel_rfl) rfl ?_,?_⟩
  ·intro act w' hw' h1;obtain ⟨hk,hf⟩:=evkf act;generalize act.eval=ρ at *;replace h1:ρ (.tmp 1)=.pointer (some ⟨w.heap.size,0,none⟩):=h1
   refine gxB hw' fun K hK hc hf'=>?_
   go_simp;exact hK _ _ ⟨rfl,Gr.refl _⟩
  refine ⟨jZb [(6,some 0)] (by kernel_rfl) rfl ?_,?_⟩
  ·intro act w' hw' h1;obtain ⟨hk,hf⟩:=evkf act;generalize act.eval=ρ at *;replace h1:ρ (.tmp 6)=.pointer (some ⟨w.heap.size,0,none⟩):=h1
   refine gxB hw' fun K hK hc hf'=>?_
   go_simp;exact hK _ _ ⟨rfl,Gr.refl _⟩
  refine ⟨jZb [(1,none)] (by kernel_rfl) rfl ?_,?_⟩
  ·intro act w' hw' h1;obtain ⟨hk,hf⟩:=evkf act;generalize act.eval=ρ at *;replace h1:ρ (.tmp 1)=.pointer (some ⟨w.heap.size,0,none⟩):=h1
   refine gxB hw' fun K hK hc hf'=>?_
   go_simp;exact hK _ _ ⟨rfl,Gr.refl _⟩
  refine ⟨jZb [(8,some 2)] (by kernel_rfl) rfl ?_,?_⟩
  ·intro act w' hw' h1;obtain ⟨hk,hf⟩:=evkf act;generalize act.eval=ρ at *;replace h1:ρ (.tmp 8)=.pointer (some ⟨w.heap.size,2,none⟩):=h1
   refine gxB hw' fun K hK hc hf'=>?_
   go_simp;exact hK _ _ ⟨rfl,Gr.refl _⟩
  refine ⟨jZb [(9,some 3)] (by kernel_rfl) rfl ?_,?_⟩
  ·intro act w' hw' h1;obtain ⟨hk,hf⟩:=evkf act;generalize act.eval=ρ at *;replace h1:ρ (.tmp 9)=.slice A3 L3.length c3:=h1
   refine gxB hw' fun K hK hc hf'=>?_
   go_simp
   (with_reducible refine (vZy A3 c3 L3 _ (HV3.out.keep (jZs hw'.out)) (by omega) HSM.out).mono ?_);rintro e w1 ⟨rfl,hr1,hb1⟩;exact ⟨_,rfl,hK _ _ ⟨⟨_,_,by rw [List.length_map],hr1.v⟩,hb1⟩⟩
  refine ⟨jZb [(7,some 1),(10,some 4)] (by kernel_rfl) rfl ?_,?_⟩
  ·intro act w' hw' h1 h2;obtain ⟨hk,hf⟩:=evkf act;generalize act.eval=ρ at *;replace h1:ρ (.tmp 7)=.slice A1 L1.length c1:=h1;replace h2:(fun v w=>SpR w v (L3.map acM)) (ρ (.tmp 10)) w':=h2
   refine gxB hw' fun K hK hc hf'=>?_
   go_simp;obtain ⟨A,c,e,hs⟩:=h2;rw [e];(with_reducible refine (rZ4 A1 c1 L1 A c (L3.map acM) _ (HV1.out.keep (jZs hw'.out)) HS1.out hs HK1.out).mono ?_);rintro e w1 ⟨rfl,hr1,hb1⟩;exact ⟨_,rfl,hK _ _ ⟨⟨_,_,rfl,hr1.nv⟩,hb1⟩⟩
  refine ⟨jZb [(11,some 5)] (by kernel_rfl) rfl ?_,?_⟩
  ·intro act w' hw' h1;obtain ⟨hk,hf⟩:=evkf act;generalize act.eval=ρ at *;replace h1:(fun v w=>NRz w v L1.length (kZl L1 (L3.map acM))) (ρ (.tmp 11)) w':=h1
   refine gxB hw' fun K hK hc hf'=>?_
   go_simp;exact hK _ _ ⟨h1,Gr.refl _⟩
  exact trivial
 case hfin =>
  intro w1 hg1;intro v6 t6;replace t6:v6=.pointer (some ⟨w.heap.size,0,none⟩):=t6;subst t6;intro v7 t7;replace t7:v7=.slice A1 L1.length c1:=t7;subst t7;intro v8 t8;replace t8:v8=.pointer (some ⟨w.heap.size,2,none⟩):=t8;subst t8;intro v9 t9;replace t9:v9=.slice A3 L3.length c3:=t9;subst t9;intro v10 t10;replace t10:(fun v w=>SpR w v (L3.map acM)) v10 w1:=t10;intro v11 t11
  replace t11:(fun v w=>NRz w v L1.length (kZl L1 (L3.map acM))) v11 w1:=t11;intro v4 t4;replace t4:(fun v w=>NRz w v L1.length (kZl L1 (L3.map acM))) v4 w1:=t4;have hb1:=jZs hg1.out;clear hg1;simp only [finP,Act.put,List.setIfInBounds_toArray,List.set_cons_succ,List.set_cons_zero];obtain ⟨B1,e1,rfl,hn1⟩:=t4;clear t10 t11 d0 d1 d2 lx;replace HX:=hbk hb1 HX;replace HV1:=hD (HV1.out.keep hb1)
  replace HV2:=hD (HV2.out.keep hb1);replace HV3:=hD (HV3.out.keep hb1);replace HB:=hD (jZa HB.out hb1);clear hb1;have HN1:=hD hn1;clear hn1;have d0:=jZc HX.out 0;have d1:=jZc HX.out 1;have d2:=jZc HX.out 2;have lx:=ltS HX.out
  go_wp2_with fail
  refine kZ8 (XV (.pointer (some ⟨w.heap.size,1,none⟩)) :: XV (.slice A2 L2.length c2) :: XV (.pointer (some ⟨w.heap.size,2,none⟩)) :: XV (.slice A3 L3.length c3) :: (fun v w=>SpR w v (L3.map dnM)) :: (fun v w=>NRz w v L2.length (kZl L2 (L3.map dnM))) :: (fun v w=>NRz w v L2.length (kZl L2 (L3.map dnM))) :: []) (by kernel_rfl) (by kernel_rfl) ?hTs ?hops ?hfin
  case hTs =>
   intro T hT;simp only [List.mem_cons,List.not_mem_nil,or_false] at hT
   rcases hT with rfl | rfl | rfl | rfl | rfl | rfl | rfl <;> first | exact qZn _ | exact qZo | exact kZh (fun v a b x g=>x.keep g) | exact kZh (fun v a b x g=>x)
  case hops =>
   refine ⟨jZb [(1,none)] (by kernel_rfl) rfl ?_,?_⟩
   ·intro act w' hw' h1;obtain ⟨hk,hf⟩:=evkf act;generalize act.eval=ρ at *;replace h1:ρ (.tmp 1)=.pointer (some ⟨w.heap.size,0,none⟩):=h1
    refine gxB hw' fun K hK hc hf'=>?_
    go_simp;exact hK _ _ ⟨rfl,Gr.refl _⟩
   refine ⟨jZb [(12,some 0)] (by kernel_rfl) rfl ?_,?_⟩
   ·intro act w' hw' h1;obtain ⟨hk,hf⟩:=evkf act;generalize act.eval=ρ at *;replace h1:ρ (.tmp 12)=.pointer (some ⟨w.heap.size,1,none⟩):=h1
    refine gxB hw' fun K hK hc hf'=>?_
    go_simp;exact hK _ _ ⟨rfl,Gr.refl _⟩
   refine ⟨jZb [(1,none)] (by kernel_rfl) rfl ?_,?_⟩
   ·intro act w' hw' h1;obtain ⟨hk,hf⟩:=evkf act;generalize act.eval=ρ at *;replace h1:ρ (.tmp 1)=.pointer (some ⟨w.heap.size,0,none⟩):=h1
    refine gxB hw' fun K hK hc hf'=>?_
    go_simp;exact hK _ _ ⟨rfl,Gr.refl _⟩
   refine ⟨jZb [(14,some 2)] (by kernel_rfl) rfl ?_,?_⟩
   ·intro act w' hw' h1;obtain ⟨hk,hf⟩:=evkf act;generalize act.eval=ρ at *;replace h1:ρ (.tmp 14)=.pointer (some ⟨w.heap.size,2,none⟩):=h1
    refine gxB hw' fun K hK hc hf'=>?_
    go_simp;exact hK _ _ ⟨rfl,Gr.refl _⟩
   refine ⟨jZb [(15,some 3)] (by kernel_rfl) rfl ?_,?_⟩
   ·intro act w' hw' h1;obtain ⟨hk,hf⟩:=evkf act;generalize act.eval=ρ at *;replace h1:ρ (.tmp 15)=.slice A3 L3.length c3:=h1
    refine gxB hw' fun K hK hc hf'=>?_
    go_simp
    (with_reducible refine (cZ4 A3 c3 L3 _ (HV3.out.keep (jZs hw'.out)) (by omega) HSM.out).mono ?_);rintro e w1 ⟨rfl,hr1,hb1⟩;exact ⟨_,rfl,hK _ _ ⟨⟨_,_,by rw [List.length_map],hr1.v⟩,hb1⟩⟩
   refine ⟨jZb [(13,some 1),(16,some 4)] (by kernel_rfl) rfl ?_,?_⟩
   ·intro act w' hw' h1 h2;obtain ⟨hk,hf⟩:=evkf act;generalize act.eval=ρ at *;replace h1:ρ (.tmp 13)=.slice A2 L2.length c2:=h1;replace h2:(fun v w=>SpR w v (L3.map dnM)) (ρ (.tmp 16)) w':=h2
    refine gxB hw' fun K hK hc hf'=>?_
    go_simp;obtain ⟨A,c,e,hs⟩:=h2;rw [e];(with_reducible refine (rZ4 A2 c2 L2 A c (L3.map dnM) _ (HV2.out.keep (jZs hw'.out)) HS2.out hs HK2.out).mono ?_);rintro e w1 ⟨rfl,hr1,hb1⟩;exact ⟨_,rfl,hK _ _ ⟨⟨_,_,rfl,hr1.nv⟩,hb1⟩⟩
   refine ⟨jZb [(17,some 5)] (by kernel_rfl) rfl ?_,?_⟩
   ·intro act w' hw' h1;obtain ⟨hk,hf⟩:=evkf act;generalize act.eval=ρ at *;replace h1:(fun v w=>NRz w v L2.length (kZl L2 (L3.map dnM))) (ρ (.tmp 17)) w':=h1
    refine gxB hw' fun K hK hc hf'=>?_
    go_simp;exact hK _ _ ⟨h1,Gr.refl _⟩
   exact trivial
  case hfin =>
   intro w2 hg2;intro v12 t12;replace t12:v12=.pointer (some ⟨w.heap.size,1,none⟩):=t12;subst t12;intro v13 t13;replace t13:v13=.slice A2 L2.length c2:=t13;subst t13;intro v14 t14;replace t14:v14=.pointer (some ⟨w.heap.size,2,none⟩):=t14;subst t14;intro v15 t15;replace t15:v15=.slice A3 L3.length c3:=t15;subst t15;intro v16 t16;replace t16:(fun v w=>SpR w v (L3.map dnM)) v16 w2:=t16;intro v17 t17
   replace t17:(fun v w=>NRz w v L2.length (kZl L2 (L3.map dnM))) v17 w2:=t17;intro v5 t5;replace t5:(fun v w=>NRz w v L2.length (kZl L2 (L3.map dnM))) v5 w2:=t5;have hb2:=jZs hg2.out;clear hg2;simp only [finP,Act.put,List.setIfInBounds_toArray,List.set_cons_succ,List.set_cons_zero];obtain ⟨B2,e2,rfl,hn2⟩:=t5;clear t16 t17 d0 d1 d2 lx;replace HX:=hbk hb2 HX
   replace HN1:=hD (HN1.out.keep hb2);replace HB:=hD (jZa HB.out hb2);clear hb2;have HN2:=hD hn2;clear hn2
   go_wp2_with fail
   with_reducible refine (sum_b B1 e1 L1.length _ _ HN1.out HL1.out.symm (by omega) HM1.out).mono ?_
   rintro e w3 ⟨rfl,hb3⟩;replace HX:=hbk hb3 HX;replace HN2:=hD (HN2.out.keep hb3);replace HB:=hD (jZa HB.out hb3);clear hb3
   go_wp2_with fail
   with_reducible refine (sum_b B2 e2 L2.length _ _ HN2.out HL2.out.symm (by omega) HM2.out).mono ?_
   rintro e w4 ⟨rfl,hb4⟩;replace HX:=hbk hb4 HX;replace HB:=hD (jZa HB.out hb4);clear hb4;go_wp2;exact bodyPost_ret (v:=.tuple #[.int .i64 (sumI (kZl L1 (L3.map acM))),.int .i64 (sumI (kZl L2 (L3.map dnM)))]) (by simp only [results,Tryz.results207];go_simp) rfl ⟨rfl,HB.out⟩
theorem cZs (A1:Option Addr) (c1:Nat) (L1:List Ln) (A2:Option Addr) (c2:Nat) (L2:List Ln) (A3:Option Addr) (c3:Nat) (L3:List Ce) (w:World) (h1:LnV w A1 L1) (h2:LnV w A2 L2) (h3:CeV w A3 L3) (v1:kZd L1=true) (v2:kZd L2=true) (hl8:L3.length≤10) (hsm:∀ p∈L3,smW p) (hs1:pZ7 L1.length (L3.map acM)) (hs2:pZ7 L2.length (L3.map dnM)) (k1:L1.length≤c1) (k2:L2.length≤c2) :
  Calls Tryz.prog 112 #[.agg #[.slice A1 L1.length c1,.slice A2 L2.length c2,.slice A3 L3.length c3]] w fun e w'=>e=.returned (.tuple #[.int .i64 (sumI (kZl L1 (L3.map acM))),.int .i64 (sumI (kZl L2 (L3.map dnM)))])∧Below w.heap.size w w':=by
 obtain ⟨m1,q1⟩:=tZo v1 hs1;obtain ⟨m2,q2⟩:=tZo v2 hs2;have n1:=(kZz v1).2;have n2:=(kZz v2).2;have hB0:Below w.heap.size w (w.alloc (.cells #[.slice A1 L1.length c1,.slice A2 L2.length c2,.slice A3 L3.length c3] 128 (0,0))):=jZd (Below.refl _ _);have hx0:=newS w (.cells #[.slice A1 L1.length c1,.slice A2 L2.length c2,.slice A3 L3.length c3] 128 (0,0))
 have HV1:=hD (h1.keep hB0);have HV2:=hD (h2.keep hB0);have HV3:=hD (h3.keep hB0);have HX:=hD hx0;have HB:=hD hB0;have HS1:=hD v1;have HS2:=hD v2;have HM1:=hD m1;have HM2:=hD m2;have HSM:=hD hsm;have HK1:=hD hs1;have HK2:=hD hs2;have HL1:=hD q1;have HL2:=hD q2;clear hB0 hx0 h1 h2 h3 v1 v2 m1 m2 hsm hs1 hs2 q1 q2
 go_enter Tryz.func112,Tryz.ntmps112
 have d0:=jZc HX.out 0;have d1:=jZc HX.out 1;have d2:=jZc HX.out 2;have lx:=ltS HX.out
 go_wp2_with fail
 refine kZ8 (XV (.pointer (some ⟨w.heap.size,0,none⟩)) :: XV (.slice A1 L1.length c1) :: XV (.agg #[.slice A1 L1.length c1,.slice A2 L2.length c2,.slice A3 L3.length c3]) :: (fun v w=>SpR w v (L3.map acM)) :: (fun v w=>NRz w v L1.length (kZl L1 (L3.map acM))) :: XV (.int .i64 (sumI (kZl L1 (L3.map acM)))) :: XV (.pointer (some ⟨w.heap.size,1,none⟩)) :: XV (.slice A2 L2.length c2) :: XV (.agg #[.slice A1 L1.length c1,.slice A2 L2.length c2,.slice A3 L3.length c3]) :: (fun v w=>SpR w v (L3.map dnM)) :: (fun v w=>NRz w v L2.length (kZl L2 (L3.map dnM))) :: XV (.int .i64 (sumI (kZl L2 (L3.map dnM)))) :: XV (.int .i64 (sumI (kZl L1 (L3.map acM)))) :: XV (.int .i64 (sumI (kZl L2 (L3.map dnM)))) :: []) (by kernel_rfl) (by kernel_rfl) ?hTs ?hops ?hfin
 case hTs =>
  intro T hT;simp only [List.mem_cons,List.not_mem_nil,or_false] at hT
  rcases hT with rfl | rfl | rfl | rfl | rfl | rfl | rfl | rfl | rfl | rfl | rfl | rfl | rfl | rfl <;> first | exact qZn _ | exact qZo | exact kZh (fun v a b x g=>x.keep g) | exact kZh (fun v a b x g=>x)
 case hops =>
  refine ⟨jZb [(1,none)] (by kernel_rfl) rfl ?_,?_⟩
  ·intro act w' hw' h1;obtain ⟨hk,hf⟩:=evkf act;generalize act.eval=ρ at *;replace h1:ρ (.tmp 1)=.pointer (some ⟨w.heap.size,0,none⟩):=h1
   refine gxB hw' fun K hK hc hf'=>?_
   go_simp;exact hK _ _ ⟨rfl,Gr.refl _⟩
  refine ⟨jZb [(4,some 0)] (by kernel_rfl) rfl ?_,?_⟩
  ·intro act w' hw' h1;obtain ⟨hk,hf⟩:=evkf act;generalize act.eval=ρ at *;replace h1:ρ (.tmp 4)=.pointer (some ⟨w.heap.size,0,none⟩):=h1
   refine gxB hw' fun K hK hc hf'=>?_
   go_simp;exact hK _ _ ⟨rfl,Gr.refl _⟩
  refine ⟨jZb [(1,none)] (by kernel_rfl) rfl ?_,?_⟩
  ·intro act w' hw' h1;obtain ⟨hk,hf⟩:=evkf act;generalize act.eval=ρ at *;replace h1:ρ (.tmp 1)=.pointer (some ⟨w.heap.size,0,none⟩):=h1
   refine gxB hw' fun K hK hc hf'=>?_
   go_simp;exact hK _ _ ⟨rfl,Gr.refl _⟩
  refine ⟨jZb [(6,some 2)] (by kernel_rfl) rfl ?_,?_⟩
  ·intro act w' hw' h1;obtain ⟨hk,hf⟩:=evkf act;generalize act.eval=ρ at *;replace h1:ρ (.tmp 6)=.agg #[.slice A1 L1.length c1,.slice A2 L2.length c2,.slice A3 L3.length c3]:=h1
   refine gxB hw' fun K hK hc hf'=>?_
   go_simp
   (with_reducible refine (dZn A1 A2 A3 c1 L1.length c2 L2.length c3 L3 _ (HV3.out.keep (jZs hw'.out)) hl8 HSM.out).mono ?_);rintro e w1 ⟨⟨v,rfl,hr1⟩,hb1⟩;exact ⟨_,rfl,hK _ _ ⟨hr1,hb1⟩⟩
  refine ⟨jZb [(5,some 1),(7,some 3)] (by kernel_rfl) rfl ?_,?_⟩
  ·intro act w' hw' h1 h2;obtain ⟨hk,hf⟩:=evkf act;generalize act.eval=ρ at *;replace h1:ρ (.tmp 5)=.slice A1 L1.length c1:=h1;replace h2:(fun v w=>SpR w v (L3.map acM)) (ρ (.tmp 7)) w':=h2
   refine gxB hw' fun K hK hc hf'=>?_
   go_simp;obtain ⟨A,c,e,hs⟩:=h2;rw [e];(with_reducible refine (bZa A1 c1 L1 A c (L3.map acM) _ (HV1.out.keep (jZs hw'.out)) HS1.out hs HK1.out k1).mono ?_);rintro e w1 ⟨⟨g,cap,rfl,_,hr1⟩,hb1⟩;exact ⟨_,rfl,hK _ _ ⟨⟨_,_,rfl,hr1.nv⟩,hb1⟩⟩
  refine ⟨jZb [(8,some 4)] (by kernel_rfl) rfl ?_,?_⟩
  ·intro act w' hw' h1;obtain ⟨hk,hf⟩:=evkf act;generalize act.eval=ρ at *;replace h1:(fun v w=>NRz w v L1.length (kZl L1 (L3.map acM))) (ρ (.tmp 8)) w':=h1
   refine gxB hw' fun K hK hc hf'=>?_
   go_simp;obtain ⟨A,c,e,hs⟩:=h1;rw [e];(with_reducible refine (eZh A c L1.length _ _ hs HL1.out.symm (by omega) HM1.out).mono ?_);rintro e w1 ⟨rfl,hb1⟩;exact ⟨_,rfl,hK _ _ ⟨rfl,hb1⟩⟩
  refine ⟨jZb [(1,none)] (by kernel_rfl) rfl ?_,?_⟩
  ·intro act w' hw' h1;obtain ⟨hk,hf⟩:=evkf act;generalize act.eval=ρ at *;replace h1:ρ (.tmp 1)=.pointer (some ⟨w.heap.size,0,none⟩):=h1
   refine gxB hw' fun K hK hc hf'=>?_
   go_simp;exact hK _ _ ⟨rfl,Gr.refl _⟩
  refine ⟨jZb [(10,some 6)] (by kernel_rfl) rfl ?_,?_⟩
  ·intro act w' hw' h1;obtain ⟨hk,hf⟩:=evkf act;generalize act.eval=ρ at *;replace h1:ρ (.tmp 10)=.pointer (some ⟨w.heap.size,1,none⟩):=h1
   refine gxB hw' fun K hK hc hf'=>?_
   go_simp;exact hK _ _ ⟨rfl,Gr.refl _⟩
  refine ⟨jZb [(1,none)] (by kernel_rfl) rfl ?_,?_⟩
  ·intro act w' hw' h1;obtain ⟨hk,hf⟩:=evkf act;generalize act.eval=ρ at *;replace h1:ρ (.tmp 1)=.pointer (some ⟨w.heap.size,0,none⟩):=h1
   refine gxB hw' fun K hK hc hf'=>?_
   go_simp;exact hK _ _ ⟨rfl,Gr.refl _⟩
  refine ⟨jZb [(12,some 8)] (by kernel_rfl) rfl ?_,?_⟩
  ·intro act w' hw' h1;obtain ⟨hk,hf⟩:=evkf act;generalize act.eval=ρ at *;replace h1:ρ (.tmp 12)=.agg #[.slice A1 L1.length c1,.slice A2 L2.length c2,.slice A3 L3.length c3]:=h1
   refine gxB hw' fun K hK hc hf'=>?_
   go_simp
   (with_reducible refine (dZo A1 A2 A3 c1 L1.length c2 L2.length c3 L3 _ (HV3.out.keep (jZs hw'.out)) hl8 HSM.out).mono ?_);rintro e w1 ⟨⟨v,rfl,hr1⟩,hb1⟩;exact ⟨_,rfl,hK _ _ ⟨hr1,hb1⟩⟩
  refine ⟨jZb [(11,some 7),(13,some 9)] (by kernel_rfl) rfl ?_,?_⟩
  ·intro act w' hw' h1 h2;obtain ⟨hk,hf⟩:=evkf act;generalize act.eval=ρ at *;replace h1:ρ (.tmp 11)=.slice A2 L2.length c2:=h1;replace h2:(fun v w=>SpR w v (L3.map dnM)) (ρ (.tmp 13)) w':=h2
   refine gxB hw' fun K hK hc hf'=>?_
   go_simp;obtain ⟨A,c,e,hs⟩:=h2;rw [e];(with_reducible refine (bZa A2 c2 L2 A c (L3.map dnM) _ (HV2.out.keep (jZs hw'.out)) HS2.out hs HK2.out k2).mono ?_);rintro e w1 ⟨⟨g,cap,rfl,_,hr1⟩,hb1⟩;exact ⟨_,rfl,hK _ _ ⟨⟨_,_,rfl,hr1.nv⟩,hb1⟩⟩
  refine ⟨jZb [(14,some 10)] (by kernel_rfl) rfl ?_,?_⟩
  ·intro act w' hw' h1;obtain ⟨hk,hf⟩:=evkf act;generalize act.eval=ρ at *;replace h1:(fun v w=>NRz w v L2.length (kZl L2 (L3.map dnM))) (ρ (.tmp 14)) w':=h1
   refine gxB hw' fun K hK hc hf'=>?_
   go_simp;obtain ⟨A,c,e,hs⟩:=h1;rw [e];(with_reducible refine (eZh A c L2.length _ _ hs HL2.out.symm (by omega) HM2.out).mono ?_);rintro e w1 ⟨rfl,hb1⟩;exact ⟨_,rfl,hK _ _ ⟨rfl,hb1⟩⟩
  refine ⟨jZb [(9,some 5)] (by kernel_rfl) rfl ?_,?_⟩
  ·intro act w' hw' h1;obtain ⟨hk,hf⟩:=evkf act;generalize act.eval=ρ at *;replace h1:ρ (.tmp 9)=.int .i64 (sumI (kZl L1 (L3.map acM))):=h1
   refine gxB hw' fun K hK hc hf'=>?_
   go_simp;exact hK _ _ ⟨rfl,Gr.refl _⟩
  refine ⟨jZb [(15,some 11)] (by kernel_rfl) rfl ?_,?_⟩
  ·intro act w' hw' h1;obtain ⟨hk,hf⟩:=evkf act;generalize act.eval=ρ at *;replace h1:ρ (.tmp 15)=.int .i64 (sumI (kZl L2 (L3.map dnM))):=h1
   refine gxB hw' fun K hK hc hf'=>?_
   go_simp;exact hK _ _ ⟨rfl,Gr.refl _⟩
  exact trivial
 case hfin =>
  intro w1 hg1;intro v4 t4;replace t4:v4=.pointer (some ⟨w.heap.size,0,none⟩):=t4;subst t4;intro v5 t5;replace t5:v5=.slice A1 L1.length c1:=t5;subst t5;intro v6 t6;replace t6:v6=.agg #[.slice A1 L1.length c1,.slice A2 L2.length c2,.slice A3 L3.length c3]:=t6;subst t6;intro v7 t7;replace t7:(fun v w=>SpR w v (L3.map acM)) v7 w1:=t7;intro v8 t8
  replace t8:(fun v w=>NRz w v L1.length (kZl L1 (L3.map acM))) v8 w1:=t8;intro v9 t9;replace t9:v9=.int .i64 (sumI (kZl L1 (L3.map acM))):=t9;subst t9;intro v10 t10;replace t10:v10=.pointer (some ⟨w.heap.size,1,none⟩):=t10;subst t10;intro v11 t11;replace t11:v11=.slice A2 L2.length c2:=t11;subst t11;intro v12 t12
  replace t12:v12=.agg #[.slice A1 L1.length c1,.slice A2 L2.length c2,.slice A3 L3.length c3]:=t12;subst t12;intro v13 t13;replace t13:(fun v w=>SpR w v (L3.map dnM)) v13 w1:=t13;intro v14 t14;replace t14:(fun v w=>NRz w v L2.length (kZl L2 (L3.map dnM))) v14 w1:=t14;intro v15 t15;replace t15:v15=.int .i64 (sumI (kZl L2 (L3.map dnM))):=t15;subst t15;intro v2 t2
  replace t2:v2=.int .i64 (sumI (kZl L1 (L3.map acM))):=t2;subst t2;intro v3 t3;replace t3:v3=.int .i64 (sumI (kZl L2 (L3.map dnM))):=t3;subst t3;have hb1:=jZs hg1.out;clear hg1;simp only [finP,Act.put,List.setIfInBounds_toArray,List.set_cons_succ,List.set_cons_zero];clear t7 t8 t13 t14 d0 d1 d2 lx;replace HX:=hbk hb1 HX;replace HB:=hD (jZa HB.out hb1);clear hb1;go_wp2
  exact bodyPost_ret (v:=.tuple #[.int .i64 (sumI (kZl L1 (L3.map acM))),.int .i64 (sumI (kZl L2 (L3.map dnM)))]) (by simp only [results,Tryz.results112];go_simp) rfl ⟨rfl,HB.out⟩
end
end Go.Proofs.YtfnpdlnepjhljaaGreat
