import Derived.Test.YtenckjdiggaonaaGreatQu34
set_option linter.unusedVariables false
set_option linter.unusedSimpArgs false
set_option maxRecDepth 100000
set_option maxHeartbeats 16000000
namespace Go.Proofs.YtenckjdiggaonaaGreat
open Go.RowKit
attribute [local go_sem] growUpon_value growUpon_skip growUpon_enter
section
def spB (n:Nd):Bool:=rng n.ww 0 30 && (rng n.hh 0 30 && (rng n.ki 0 2 && (n.pk.ok && (decide (n.pk.w=0) && (decide (n.pk.h=0) && (plB n.pl && (decide (n.ce.cw=0) && decide (n.ce.ch=0))))))))
theorem nd_sp (n:Nd):ndB n=(spB n && ownB n):=by
 unfold ndB spB;generalize rng n.ww 0 30=a1;generalize rng n.hh 0 30=a2;generalize rng n.ki 0 2=a3;generalize ownB n=a4;generalize n.pk.ok=a5;generalize decide (n.pk.w=0)=a6;generalize decide (n.pk.h=0)=a7;generalize decide (n.ce.cw=0)=a8;generalize decide (n.ce.ch=0)=a9;generalize plB n.pl=b1
 cases a1 <;> cases a2 <;> cases a3 <;> cases a4 <;> cases a5 <;> cases a6 <;> cases a7 <;> cases a8 <;> cases a9 <;> cases b1 <;> rfl
theorem neb_t {x:Int} (h:decide (x=0)=true):(x != 0)=false:=by simp [bne,eqb_t h]
theorem neb_f {x:Int} (h:decide (x=0)=false):(x != 0)=true:=by simp [bne,eqb_f h]
theorem svalidNode_no (A:Option Addr) (c:Nat) (R:List Nr) (i:Nat) (p:Nr) (w:World) (h:NrV w A R) (hr:RdR w R) (hp:R[i]?=some p) (hL:R.length≤1048576) (hm:∀ p ∈ R,p.n.cs.length≤1048576∧p.n.rs.length≤1048576) (hb:spB p.n=false) :
  Calls Tryz.prog 80 #[.agg #[.slice A R.length c],.int .i64 i] w fun e w'=>e=.returned (.bool false)∧Below w.heap.size w w':=by
 have hi:i<R.length:=(List.getElem?_eq_some_iff.1 hp).1
 have hii:(i:Int)<(R.length:Int):=by omega
 have hmp:=hm p (List.mem_of_getElem? hp);obtain ⟨mp1,mp2⟩:=hmp;obtain ⟨bl,off,rfl,hbl,hc⟩:=h.cells (by omega);have hB0:Below w.heap.size w (w.alloc (.cells #[.slice (some ⟨bl,off,none⟩) R.length c] 30 (0,0))):=balloc (Below.refl _ _);have HX:=hD (newS w (.cells #[.slice (some ⟨bl,off,none⟩) R.length c] 30 (0,0)));have HLR:=hD (rangeB (hc i p hp) (hB0.block bl hbl));have HV:=hD (h.keep hB0)
 have HR:=hD (hr.keep hB0);have HB:=hD hB0;have HM:=hD hm;have HG:=hD hp;clear hc h hr hm hp hB0
 go_enter Tryz.func80,Tryz.ntmps80
 go_upto_region 2 with (first | (refine ldN _ p bl (off+i*34) rfl rfl rfl HLR.out ?_) | (refine stN (.tmp 5) (.tmp 11) p (w.heap.size+1) 0 rfl rfl rfl rfl (newS1T _ _ _) (by show (0+34:Nat)≤34;omega) ?_))
 refine wp_genGG (fun W=>W.heap[w.heap.size]?=some (.cells #[.slice (some ⟨bl,off,none⟩) R.length c] 30 (0,0))∧W.heap[w.heap.size+1]?=some (.cells (valsNr p).toArray 84 (0,0))∧NrV W (some ⟨bl,off,none⟩) R∧RdR W R∧Below w.heap.size w W) ?hw (fun W h0=>?_)
 case hw =>
  have hbb:Below (w.alloc (.cells #[.slice (some ⟨bl,off,none⟩) R.length c] 30 (0,0))).heap.size (w.alloc (.cells #[.slice (some ⟨bl,off,none⟩) R.length c] 30 (0,0))) (((w.alloc (.cells #[.slice (some ⟨bl,off,none⟩) R.length c] 30 (0,0))).alloc (.cells #[.int .i64 0,.int .i64 0,.int .i64 0,.bool false,.int .i64 0,.slice none 0 0,.slice none 0 0,.int .i64 0,.int .i64 0,.int .i64 0,.bool false,.bool false,.bool false,.int .i64 0,.int .i64 0,.int .i64 0,.int .i64 0,.int .i64 0,.int .i64 0,.int .i64 0,.int .i64 0,.int .i64 0,.int .i64 0,.int .i64 0,.int .i64 0,.int .i64 0,.int .i64 0,.int .i64 0,.int .i64 0,.int .i64 0,.int .i64 0,.int .i64 0,.int .i64 0,.int .i64 0] 84)).setCells (w.heap.size+1) 0 (valsNr p)):=below_setCells (by simp) _ _ _ (balloc (Below.refl _ _))
  exact ⟨(hbb.block _ (ltS HX.out)).trans HX.out,by rw [heap_setCells (valsNr p) 0 _ _ (newS1T w _ _),wrAt_all (by rfl)],HV.out.keep hbb,HR.out.keep hbb,bkeep2 HB.out hbb⟩
 clear HX HLR HV HR HB;obtain ⟨hx,hn,hv,hr,hb0⟩:=h0;have HX:=hD hx;have HN:=hD hn;have HV:=hD hv;have HR:=hD hr;have HB:=hD hb0;clear hx hn hv hr hb0
 cases h1:rng p.n.ww 0 30
 ·clear hb;have hr:=nodeAt HN.out;obtain ⟨x0,x1,x2,x4,x5,x6,x7,x8,x20,x21⟩:=xs0_1_2_4_5_6_7_8_20_21 HN.out;have hrp:=node_pk hr;have hrl:=node_pl hr;have hrc:=node_ce hr;simp only [Nat.zero_add] at hrp hrl hrc;have HRP:=hD hrp;have HRL:=hD hrl;have HRC:=hD hrc;clear hr hrp hrl hrc
  go_wp2_with (first | (refine ldPack p.n (w.heap.size+1) 7 rfl rfl rfl HRP.out ?_) | (refine ldPlace p.n (w.heap.size+1) 25 rfl rfl rfl HRL.out ?_) | (refine ldCell p.n (w.heap.size+1) 16 rfl rfl rfl HRC.out ?_))
  with_reducible refine (inRange_w _ 0 30 false _ h1).mono ?_
  rintro e wq ⟨rfl,rfl⟩
  go_wp2_with (first | (refine ldPack p.n (w.heap.size+1) 7 rfl rfl rfl HRP.out ?_) | (refine ldPlace p.n (w.heap.size+1) 25 rfl rfl rfl HRL.out ?_) | (refine ldCell p.n (w.heap.size+1) 16 rfl rfl rfl HRC.out ?_))
  go_ret;exact ⟨rfl,HB.out⟩
 cases h2:rng p.n.hh 0 30
 ·clear hb;have hr:=nodeAt HN.out;obtain ⟨x0,x1,x2,x4,x5,x6,x7,x8,x20,x21⟩:=xs0_1_2_4_5_6_7_8_20_21 HN.out;have hrp:=node_pk hr;have hrl:=node_pl hr;have hrc:=node_ce hr;simp only [Nat.zero_add] at hrp hrl hrc;have HRP:=hD hrp;have HRL:=hD hrl;have HRC:=hD hrc;clear hr hrp hrl hrc
  go_wp2_with (first | (refine ldPack p.n (w.heap.size+1) 7 rfl rfl rfl HRP.out ?_) | (refine ldPlace p.n (w.heap.size+1) 25 rfl rfl rfl HRL.out ?_) | (refine ldCell p.n (w.heap.size+1) 16 rfl rfl rfl HRC.out ?_))
  with_reducible refine (inRange_w _ 0 30 true _ h1).mono ?_
  rintro e wq ⟨rfl,rfl⟩
  go_wp2_with (first | (refine ldPack p.n (w.heap.size+1) 7 rfl rfl rfl HRP.out ?_) | (refine ldPlace p.n (w.heap.size+1) 25 rfl rfl rfl HRL.out ?_) | (refine ldCell p.n (w.heap.size+1) 16 rfl rfl rfl HRC.out ?_))
  with_reducible refine (inRange_w _ 0 30 false _ h2).mono ?_
  rintro e wq ⟨rfl,rfl⟩
  go_wp2_with (first | (refine ldPack p.n (w.heap.size+1) 7 rfl rfl rfl HRP.out ?_) | (refine ldPlace p.n (w.heap.size+1) 25 rfl rfl rfl HRL.out ?_) | (refine ldCell p.n (w.heap.size+1) 16 rfl rfl rfl HRC.out ?_))
  go_ret;exact ⟨rfl,HB.out⟩
 cases h3:rng p.n.ki 0 2
 ·clear hb;have hr:=nodeAt HN.out;obtain ⟨x0,x1,x2,x4,x5,x6,x7,x8,x20,x21⟩:=xs0_1_2_4_5_6_7_8_20_21 HN.out;have hrp:=node_pk hr;have hrl:=node_pl hr;have hrc:=node_ce hr;simp only [Nat.zero_add] at hrp hrl hrc;have HRP:=hD hrp;have HRL:=hD hrl;have HRC:=hD hrc;clear hr hrp hrl hrc
  go_wp2_with (first | (refine ldPack p.n (w.heap.size+1) 7 rfl rfl rfl HRP.out ?_) | (refine ldPlace p.n (w.heap.size+1) 25 rfl rfl rfl HRL.out ?_) | (refine ldCell p.n (w.heap.size+1) 16 rfl rfl rfl HRC.out ?_))
  with_reducible refine (inRange_w _ 0 30 true _ h1).mono ?_
  rintro e wq ⟨rfl,rfl⟩
  go_wp2_with (first | (refine ldPack p.n (w.heap.size+1) 7 rfl rfl rfl HRP.out ?_) | (refine ldPlace p.n (w.heap.size+1) 25 rfl rfl rfl HRL.out ?_) | (refine ldCell p.n (w.heap.size+1) 16 rfl rfl rfl HRC.out ?_))
  with_reducible refine (inRange_w _ 0 30 true _ h2).mono ?_
  rintro e wq ⟨rfl,rfl⟩
  go_wp2_with (first | (refine ldPack p.n (w.heap.size+1) 7 rfl rfl rfl HRP.out ?_) | (refine ldPlace p.n (w.heap.size+1) 25 rfl rfl rfl HRL.out ?_) | (refine ldCell p.n (w.heap.size+1) 16 rfl rfl rfl HRC.out ?_))
  with_reducible refine (inRange_w _ 0 2 false _ h3).mono ?_
  rintro e wq ⟨rfl,rfl⟩
  go_wp2_with (first | (refine ldPack p.n (w.heap.size+1) 7 rfl rfl rfl HRP.out ?_) | (refine ldPlace p.n (w.heap.size+1) 25 rfl rfl rfl HRL.out ?_) | (refine ldCell p.n (w.heap.size+1) 16 rfl rfl rfl HRC.out ?_))
  go_ret;exact ⟨rfl,HB.out⟩
 cases h4:p.n.pk.ok
 ·clear hb;have hr:=nodeAt HN.out;obtain ⟨x0,x1,x2,x4,x5,x6,x7,x8,x20,x21⟩:=xs0_1_2_4_5_6_7_8_20_21 HN.out;have hrp:=node_pk hr;have hrl:=node_pl hr;have hrc:=node_ce hr;simp only [Nat.zero_add] at hrp hrl hrc;have HRP:=hD hrp;have HRL:=hD hrl;have HRC:=hD hrc;clear hr hrp hrl hrc
  go_wp2_with (first | (refine ldPack p.n (w.heap.size+1) 7 rfl rfl rfl HRP.out ?_) | (refine ldPlace p.n (w.heap.size+1) 25 rfl rfl rfl HRL.out ?_) | (refine ldCell p.n (w.heap.size+1) 16 rfl rfl rfl HRC.out ?_))
  with_reducible refine (inRange_w _ 0 30 true _ h1).mono ?_
  rintro e wq ⟨rfl,rfl⟩
  go_wp2_with (first | (refine ldPack p.n (w.heap.size+1) 7 rfl rfl rfl HRP.out ?_) | (refine ldPlace p.n (w.heap.size+1) 25 rfl rfl rfl HRL.out ?_) | (refine ldCell p.n (w.heap.size+1) 16 rfl rfl rfl HRC.out ?_))
  with_reducible refine (inRange_w _ 0 30 true _ h2).mono ?_
  rintro e wq ⟨rfl,rfl⟩
  go_wp2_with (first | (refine ldPack p.n (w.heap.size+1) 7 rfl rfl rfl HRP.out ?_) | (refine ldPlace p.n (w.heap.size+1) 25 rfl rfl rfl HRL.out ?_) | (refine ldCell p.n (w.heap.size+1) 16 rfl rfl rfl HRC.out ?_))
  with_reducible refine (inRange_w _ 0 2 true _ h3).mono ?_
  rintro e wq ⟨rfl,rfl⟩
  go_wp2_with (first | (refine ldPack p.n (w.heap.size+1) 7 rfl rfl rfl HRP.out ?_) | (refine ldPlace p.n (w.heap.size+1) 25 rfl rfl rfl HRL.out ?_) | (refine ldCell p.n (w.heap.size+1) 16 rfl rfl rfl HRC.out ?_))
  with_reducible refine (svp_v p.n.pk false h4 _).mono ?_
  rintro e v1 ⟨rfl,hb1⟩;clear x0 x1 x2 x4 x5 x6 x7 x8 x20 x21 HRP HRL HRC;replace HX:=hbk hb1 HX;replace HN:=hbk hb1 HN;replace HV:=hD (HV.out.keep hb1);replace HR:=hD (HR.out.keep hb1);replace HB:=hD (bkeep2 HB.out hb1);clear hb1;have hr:=nodeAt HN.out;obtain ⟨x0,x1,x2,x4,x5,x6,x7,x8,x20,x21⟩:=xs0_1_2_4_5_6_7_8_20_21 HN.out;have hrp:=node_pk hr;have hrl:=node_pl hr;have hrc:=node_ce hr
  simp only [Nat.zero_add] at hrp hrl hrc;have HRP:=hD hrp;have HRL:=hD hrl;have HRC:=hD hrc;clear hr hrp hrl hrc
  go_wp2_with (first | (refine ldPack p.n (w.heap.size+1) 7 rfl rfl rfl HRP.out ?_) | (refine ldPlace p.n (w.heap.size+1) 25 rfl rfl rfl HRL.out ?_) | (refine ldCell p.n (w.heap.size+1) 16 rfl rfl rfl HRC.out ?_))
  go_ret;exact ⟨rfl,HB.out⟩
 cases h5:decide (p.n.pk.w=0)
 ·clear hb;have e5:=neb_f h5;have hr:=nodeAt HN.out;obtain ⟨x0,x1,x2,x4,x5,x6,x7,x8,x20,x21⟩:=xs0_1_2_4_5_6_7_8_20_21 HN.out;have hrp:=node_pk hr;have hrl:=node_pl hr;have hrc:=node_ce hr;simp only [Nat.zero_add] at hrp hrl hrc;have HRP:=hD hrp;have HRL:=hD hrl;have HRC:=hD hrc;clear hr hrp hrl hrc
  go_wp2_with (first | (refine ldPack p.n (w.heap.size+1) 7 rfl rfl rfl HRP.out ?_) | (refine ldPlace p.n (w.heap.size+1) 25 rfl rfl rfl HRL.out ?_) | (refine ldCell p.n (w.heap.size+1) 16 rfl rfl rfl HRC.out ?_))
  with_reducible refine (inRange_w _ 0 30 true _ h1).mono ?_
  rintro e wq ⟨rfl,rfl⟩
  go_wp2_with (first | (refine ldPack p.n (w.heap.size+1) 7 rfl rfl rfl HRP.out ?_) | (refine ldPlace p.n (w.heap.size+1) 25 rfl rfl rfl HRL.out ?_) | (refine ldCell p.n (w.heap.size+1) 16 rfl rfl rfl HRC.out ?_))
  with_reducible refine (inRange_w _ 0 30 true _ h2).mono ?_
  rintro e wq ⟨rfl,rfl⟩
  go_wp2_with (first | (refine ldPack p.n (w.heap.size+1) 7 rfl rfl rfl HRP.out ?_) | (refine ldPlace p.n (w.heap.size+1) 25 rfl rfl rfl HRL.out ?_) | (refine ldCell p.n (w.heap.size+1) 16 rfl rfl rfl HRC.out ?_))
  with_reducible refine (inRange_w _ 0 2 true _ h3).mono ?_
  rintro e wq ⟨rfl,rfl⟩
  go_wp2_with (first | (refine ldPack p.n (w.heap.size+1) 7 rfl rfl rfl HRP.out ?_) | (refine ldPlace p.n (w.heap.size+1) 25 rfl rfl rfl HRL.out ?_) | (refine ldCell p.n (w.heap.size+1) 16 rfl rfl rfl HRC.out ?_))
  with_reducible refine (svp_v p.n.pk true h4 _).mono ?_
  rintro e v1 ⟨rfl,hb1⟩;clear x0 x1 x2 x4 x5 x6 x7 x8 x20 x21 HRP HRL HRC;replace HX:=hbk hb1 HX;replace HN:=hbk hb1 HN;replace HV:=hD (HV.out.keep hb1);replace HR:=hD (HR.out.keep hb1);replace HB:=hD (bkeep2 HB.out hb1);clear hb1;have hr:=nodeAt HN.out;obtain ⟨x0,x1,x2,x4,x5,x6,x7,x8,x20,x21⟩:=xs0_1_2_4_5_6_7_8_20_21 HN.out;have hrp:=node_pk hr;have hrl:=node_pl hr;have hrc:=node_ce hr
  simp only [Nat.zero_add] at hrp hrl hrc;have HRP:=hD hrp;have HRL:=hD hrl;have HRC:=hD hrc;clear hr hrp hrl hrc
  go_wp2_with (first | (refine ldPack p.n (w.heap.size+1) 7 rfl rfl rfl HRP.out ?_) | (refine ldPlace p.n (w.heap.size+1) 25 rfl rfl rfl HRL.out ?_) | (refine ldCell p.n (w.heap.size+1) 16 rfl rfl rfl HRC.out ?_))
  go_ret;exact ⟨rfl,HB.out⟩
 have e5:=neb_t h5
 cases h6:decide (p.n.pk.h=0)
 ·clear hb;have e6:=neb_f h6;have hr:=nodeAt HN.out;obtain ⟨x0,x1,x2,x4,x5,x6,x7,x8,x20,x21⟩:=xs0_1_2_4_5_6_7_8_20_21 HN.out;have hrp:=node_pk hr;have hrl:=node_pl hr;have hrc:=node_ce hr;simp only [Nat.zero_add] at hrp hrl hrc;have HRP:=hD hrp;have HRL:=hD hrl;have HRC:=hD hrc;clear hr hrp hrl hrc
  go_wp2_with (first | (refine ldPack p.n (w.heap.size+1) 7 rfl rfl rfl HRP.out ?_) | (refine ldPlace p.n (w.heap.size+1) 25 rfl rfl rfl HRL.out ?_) | (refine ldCell p.n (w.heap.size+1) 16 rfl rfl rfl HRC.out ?_))
  with_reducible refine (inRange_w _ 0 30 true _ h1).mono ?_
  rintro e wq ⟨rfl,rfl⟩
  go_wp2_with (first | (refine ldPack p.n (w.heap.size+1) 7 rfl rfl rfl HRP.out ?_) | (refine ldPlace p.n (w.heap.size+1) 25 rfl rfl rfl HRL.out ?_) | (refine ldCell p.n (w.heap.size+1) 16 rfl rfl rfl HRC.out ?_))
  with_reducible refine (inRange_w _ 0 30 true _ h2).mono ?_
  rintro e wq ⟨rfl,rfl⟩
  go_wp2_with (first | (refine ldPack p.n (w.heap.size+1) 7 rfl rfl rfl HRP.out ?_) | (refine ldPlace p.n (w.heap.size+1) 25 rfl rfl rfl HRL.out ?_) | (refine ldCell p.n (w.heap.size+1) 16 rfl rfl rfl HRC.out ?_))
  with_reducible refine (inRange_w _ 0 2 true _ h3).mono ?_
  rintro e wq ⟨rfl,rfl⟩
  go_wp2_with (first | (refine ldPack p.n (w.heap.size+1) 7 rfl rfl rfl HRP.out ?_) | (refine ldPlace p.n (w.heap.size+1) 25 rfl rfl rfl HRL.out ?_) | (refine ldCell p.n (w.heap.size+1) 16 rfl rfl rfl HRC.out ?_))
  with_reducible refine (svp_v p.n.pk true h4 _).mono ?_
  rintro e v1 ⟨rfl,hb1⟩;clear x0 x1 x2 x4 x5 x6 x7 x8 x20 x21 HRP HRL HRC;replace HX:=hbk hb1 HX;replace HN:=hbk hb1 HN;replace HV:=hD (HV.out.keep hb1);replace HR:=hD (HR.out.keep hb1);replace HB:=hD (bkeep2 HB.out hb1);clear hb1;have hr:=nodeAt HN.out;obtain ⟨x0,x1,x2,x4,x5,x6,x7,x8,x20,x21⟩:=xs0_1_2_4_5_6_7_8_20_21 HN.out;have hrp:=node_pk hr;have hrl:=node_pl hr;have hrc:=node_ce hr
  simp only [Nat.zero_add] at hrp hrl hrc;have HRP:=hD hrp;have HRL:=hD hrl;have HRC:=hD hrc;clear hr hrp hrl hrc
  go_wp2_with (first | (refine ldPack p.n (w.heap.size+1) 7 rfl rfl rfl HRP.out ?_) | (refine ldPlace p.n (w.heap.size+1) 25 rfl rfl rfl HRL.out ?_) | (refine ldCell p.n (w.heap.size+1) 16 rfl rfl rfl HRC.out ?_))
  go_ret;exact ⟨rfl,HB.out⟩
 have e6:=neb_t h6
 cases h7:plB p.n.pl
 ·clear hb;have hr:=nodeAt HN.out;obtain ⟨x0,x1,x2,x4,x5,x6,x7,x8,x20,x21⟩:=xs0_1_2_4_5_6_7_8_20_21 HN.out;have hrp:=node_pk hr;have hrl:=node_pl hr;have hrc:=node_ce hr;simp only [Nat.zero_add] at hrp hrl hrc;have HRP:=hD hrp;have HRL:=hD hrl;have HRC:=hD hrc;clear hr hrp hrl hrc
  go_wp2_with (first | (refine ldPack p.n (w.heap.size+1) 7 rfl rfl rfl HRP.out ?_) | (refine ldPlace p.n (w.heap.size+1) 25 rfl rfl rfl HRL.out ?_) | (refine ldCell p.n (w.heap.size+1) 16 rfl rfl rfl HRC.out ?_))
  with_reducible refine (inRange_w _ 0 30 true _ h1).mono ?_
  rintro e wq ⟨rfl,rfl⟩
  go_wp2_with (first | (refine ldPack p.n (w.heap.size+1) 7 rfl rfl rfl HRP.out ?_) | (refine ldPlace p.n (w.heap.size+1) 25 rfl rfl rfl HRL.out ?_) | (refine ldCell p.n (w.heap.size+1) 16 rfl rfl rfl HRC.out ?_))
  with_reducible refine (inRange_w _ 0 30 true _ h2).mono ?_
  rintro e wq ⟨rfl,rfl⟩
  go_wp2_with (first | (refine ldPack p.n (w.heap.size+1) 7 rfl rfl rfl HRP.out ?_) | (refine ldPlace p.n (w.heap.size+1) 25 rfl rfl rfl HRL.out ?_) | (refine ldCell p.n (w.heap.size+1) 16 rfl rfl rfl HRC.out ?_))
  with_reducible refine (inRange_w _ 0 2 true _ h3).mono ?_
  rintro e wq ⟨rfl,rfl⟩
  go_wp2_with (first | (refine ldPack p.n (w.heap.size+1) 7 rfl rfl rfl HRP.out ?_) | (refine ldPlace p.n (w.heap.size+1) 25 rfl rfl rfl HRL.out ?_) | (refine ldCell p.n (w.heap.size+1) 16 rfl rfl rfl HRC.out ?_))
  with_reducible refine (svp_v p.n.pk true h4 _).mono ?_
  rintro e v1 ⟨rfl,hb1⟩;clear x0 x1 x2 x4 x5 x6 x7 x8 x20 x21 HRP HRL HRC;replace HX:=hbk hb1 HX;replace HN:=hbk hb1 HN;replace HV:=hD (HV.out.keep hb1);replace HR:=hD (HR.out.keep hb1);replace HB:=hD (bkeep2 HB.out hb1);clear hb1;have hr:=nodeAt HN.out;obtain ⟨x0,x1,x2,x4,x5,x6,x7,x8,x20,x21⟩:=xs0_1_2_4_5_6_7_8_20_21 HN.out;have hrp:=node_pk hr;have hrl:=node_pl hr;have hrc:=node_ce hr
  simp only [Nat.zero_add] at hrp hrl hrc;have HRP:=hD hrp;have HRL:=hD hrl;have HRC:=hD hrc;clear hr hrp hrl hrc
  go_wp2_with (first | (refine ldPack p.n (w.heap.size+1) 7 rfl rfl rfl HRP.out ?_) | (refine ldPlace p.n (w.heap.size+1) 25 rfl rfl rfl HRL.out ?_) | (refine ldCell p.n (w.heap.size+1) 16 rfl rfl rfl HRC.out ?_))
  with_reducible refine (svalidPlace_t p.n.pl false _ h7).mono ?_
  rintro e v2 ⟨rfl,hb1⟩;clear x0 x1 x2 x4 x5 x6 x7 x8 x20 x21 HRP HRL HRC;replace HX:=hbk hb1 HX;replace HN:=hbk hb1 HN;replace HV:=hD (HV.out.keep hb1);replace HR:=hD (HR.out.keep hb1);replace HB:=hD (bkeep2 HB.out hb1);clear hb1;have hr:=nodeAt HN.out;obtain ⟨x0,x1,x2,x4,x5,x6,x7,x8,x20,x21⟩:=xs0_1_2_4_5_6_7_8_20_21 HN.out;have hrp:=node_pk hr;have hrl:=node_pl hr;have hrc:=node_ce hr
  simp only [Nat.zero_add] at hrp hrl hrc;have HRP:=hD hrp;have HRL:=hD hrl;have HRC:=hD hrc;clear hr hrp hrl hrc
  go_wp2_with (first | (refine ldPack p.n (w.heap.size+1) 7 rfl rfl rfl HRP.out ?_) | (refine ldPlace p.n (w.heap.size+1) 25 rfl rfl rfl HRL.out ?_) | (refine ldCell p.n (w.heap.size+1) 16 rfl rfl rfl HRC.out ?_))
  go_ret;exact ⟨rfl,HB.out⟩
 cases h8:decide (p.n.ce.cw=0)
 ·clear hb;have e8:=neb_f h8;have hr:=nodeAt HN.out;obtain ⟨x0,x1,x2,x4,x5,x6,x7,x8,x20,x21⟩:=xs0_1_2_4_5_6_7_8_20_21 HN.out;have hrp:=node_pk hr;have hrl:=node_pl hr;have hrc:=node_ce hr;simp only [Nat.zero_add] at hrp hrl hrc;have HRP:=hD hrp;have HRL:=hD hrl;have HRC:=hD hrc;clear hr hrp hrl hrc
  go_wp2_with (first | (refine ldPack p.n (w.heap.size+1) 7 rfl rfl rfl HRP.out ?_) | (refine ldPlace p.n (w.heap.size+1) 25 rfl rfl rfl HRL.out ?_) | (refine ldCell p.n (w.heap.size+1) 16 rfl rfl rfl HRC.out ?_))
  with_reducible refine (inRange_w _ 0 30 true _ h1).mono ?_
  rintro e wq ⟨rfl,rfl⟩
  go_wp2_with (first | (refine ldPack p.n (w.heap.size+1) 7 rfl rfl rfl HRP.out ?_) | (refine ldPlace p.n (w.heap.size+1) 25 rfl rfl rfl HRL.out ?_) | (refine ldCell p.n (w.heap.size+1) 16 rfl rfl rfl HRC.out ?_))
  with_reducible refine (inRange_w _ 0 30 true _ h2).mono ?_
  rintro e wq ⟨rfl,rfl⟩
  go_wp2_with (first | (refine ldPack p.n (w.heap.size+1) 7 rfl rfl rfl HRP.out ?_) | (refine ldPlace p.n (w.heap.size+1) 25 rfl rfl rfl HRL.out ?_) | (refine ldCell p.n (w.heap.size+1) 16 rfl rfl rfl HRC.out ?_))
  with_reducible refine (inRange_w _ 0 2 true _ h3).mono ?_
  rintro e wq ⟨rfl,rfl⟩
  go_wp2_with (first | (refine ldPack p.n (w.heap.size+1) 7 rfl rfl rfl HRP.out ?_) | (refine ldPlace p.n (w.heap.size+1) 25 rfl rfl rfl HRL.out ?_) | (refine ldCell p.n (w.heap.size+1) 16 rfl rfl rfl HRC.out ?_))
  with_reducible refine (svp_v p.n.pk true h4 _).mono ?_
  rintro e v1 ⟨rfl,hb1⟩;clear x0 x1 x2 x4 x5 x6 x7 x8 x20 x21 HRP HRL HRC;replace HX:=hbk hb1 HX;replace HN:=hbk hb1 HN;replace HV:=hD (HV.out.keep hb1);replace HR:=hD (HR.out.keep hb1);replace HB:=hD (bkeep2 HB.out hb1);clear hb1;have hr:=nodeAt HN.out;obtain ⟨x0,x1,x2,x4,x5,x6,x7,x8,x20,x21⟩:=xs0_1_2_4_5_6_7_8_20_21 HN.out;have hrp:=node_pk hr;have hrl:=node_pl hr;have hrc:=node_ce hr
  simp only [Nat.zero_add] at hrp hrl hrc;have HRP:=hD hrp;have HRL:=hD hrl;have HRC:=hD hrc;clear hr hrp hrl hrc
  go_wp2_with (first | (refine ldPack p.n (w.heap.size+1) 7 rfl rfl rfl HRP.out ?_) | (refine ldPlace p.n (w.heap.size+1) 25 rfl rfl rfl HRL.out ?_) | (refine ldCell p.n (w.heap.size+1) 16 rfl rfl rfl HRC.out ?_))
  with_reducible refine (svalidPlace_t p.n.pl true _ h7).mono ?_
  rintro e v2 ⟨rfl,hb1⟩;clear x0 x1 x2 x4 x5 x6 x7 x8 x20 x21 HRP HRL HRC;replace HX:=hbk hb1 HX;replace HN:=hbk hb1 HN;replace HV:=hD (HV.out.keep hb1);replace HR:=hD (HR.out.keep hb1);replace HB:=hD (bkeep2 HB.out hb1);clear hb1;have hr:=nodeAt HN.out;obtain ⟨x0,x1,x2,x4,x5,x6,x7,x8,x20,x21⟩:=xs0_1_2_4_5_6_7_8_20_21 HN.out;have hrp:=node_pk hr;have hrl:=node_pl hr;have hrc:=node_ce hr
  simp only [Nat.zero_add] at hrp hrl hrc;have HRP:=hD hrp;have HRL:=hD hrl;have HRC:=hD hrc;clear hr hrp hrl hrc
  go_wp2_with (first | (refine ldPack p.n (w.heap.size+1) 7 rfl rfl rfl HRP.out ?_) | (refine ldPlace p.n (w.heap.size+1) 25 rfl rfl rfl HRL.out ?_) | (refine ldCell p.n (w.heap.size+1) 16 rfl rfl rfl HRC.out ?_))
  go_ret;exact ⟨rfl,HB.out⟩
 have e8:=neb_t h8
 have h9:decide (p.n.ce.ch=0)=false:=by have:=hb;simp only [spB,h1,h2,h3,h4,h5,h6,h7,h8,Bool.true_and] at this;exact this
 clear hb;have e9:=neb_f h9;have hr:=nodeAt HN.out;obtain ⟨x0,x1,x2,x4,x5,x6,x7,x8,x20,x21⟩:=xs0_1_2_4_5_6_7_8_20_21 HN.out;have hrp:=node_pk hr;have hrl:=node_pl hr;have hrc:=node_ce hr;simp only [Nat.zero_add] at hrp hrl hrc;have HRP:=hD hrp;have HRL:=hD hrl;have HRC:=hD hrc;clear hr hrp hrl hrc
 go_wp2_with (first | (refine ldPack p.n (w.heap.size+1) 7 rfl rfl rfl HRP.out ?_) | (refine ldPlace p.n (w.heap.size+1) 25 rfl rfl rfl HRL.out ?_) | (refine ldCell p.n (w.heap.size+1) 16 rfl rfl rfl HRC.out ?_))
 with_reducible refine (inRange_w _ 0 30 true _ h1).mono ?_
 rintro e wq ⟨rfl,rfl⟩
 go_wp2_with (first | (refine ldPack p.n (w.heap.size+1) 7 rfl rfl rfl HRP.out ?_) | (refine ldPlace p.n (w.heap.size+1) 25 rfl rfl rfl HRL.out ?_) | (refine ldCell p.n (w.heap.size+1) 16 rfl rfl rfl HRC.out ?_))
 with_reducible refine (inRange_w _ 0 30 true _ h2).mono ?_
 rintro e wq ⟨rfl,rfl⟩
 go_wp2_with (first | (refine ldPack p.n (w.heap.size+1) 7 rfl rfl rfl HRP.out ?_) | (refine ldPlace p.n (w.heap.size+1) 25 rfl rfl rfl HRL.out ?_) | (refine ldCell p.n (w.heap.size+1) 16 rfl rfl rfl HRC.out ?_))
 with_reducible refine (inRange_w _ 0 2 true _ h3).mono ?_
 rintro e wq ⟨rfl,rfl⟩
 go_wp2_with (first | (refine ldPack p.n (w.heap.size+1) 7 rfl rfl rfl HRP.out ?_) | (refine ldPlace p.n (w.heap.size+1) 25 rfl rfl rfl HRL.out ?_) | (refine ldCell p.n (w.heap.size+1) 16 rfl rfl rfl HRC.out ?_))
 with_reducible refine (svp_v p.n.pk true h4 _).mono ?_
 rintro e v1 ⟨rfl,hb1⟩;clear x0 x1 x2 x4 x5 x6 x7 x8 x20 x21 HRP HRL HRC;replace HX:=hbk hb1 HX;replace HN:=hbk hb1 HN;replace HV:=hD (HV.out.keep hb1);replace HR:=hD (HR.out.keep hb1);replace HB:=hD (bkeep2 HB.out hb1);clear hb1;have hr:=nodeAt HN.out;obtain ⟨x0,x1,x2,x4,x5,x6,x7,x8,x20,x21⟩:=xs0_1_2_4_5_6_7_8_20_21 HN.out;have hrp:=node_pk hr;have hrl:=node_pl hr;have hrc:=node_ce hr
 simp only [Nat.zero_add] at hrp hrl hrc;have HRP:=hD hrp;have HRL:=hD hrl;have HRC:=hD hrc;clear hr hrp hrl hrc
 go_wp2_with (first | (refine ldPack p.n (w.heap.size+1) 7 rfl rfl rfl HRP.out ?_) | (refine ldPlace p.n (w.heap.size+1) 25 rfl rfl rfl HRL.out ?_) | (refine ldCell p.n (w.heap.size+1) 16 rfl rfl rfl HRC.out ?_))
 with_reducible refine (svalidPlace_t p.n.pl true _ h7).mono ?_
 rintro e v2 ⟨rfl,hb1⟩;clear x0 x1 x2 x4 x5 x6 x7 x8 x20 x21 HRP HRL HRC;replace HX:=hbk hb1 HX;replace HN:=hbk hb1 HN;replace HV:=hD (HV.out.keep hb1);replace HR:=hD (HR.out.keep hb1);replace HB:=hD (bkeep2 HB.out hb1);clear hb1;have hr:=nodeAt HN.out;obtain ⟨x0,x1,x2,x4,x5,x6,x7,x8,x20,x21⟩:=xs0_1_2_4_5_6_7_8_20_21 HN.out;have hrp:=node_pk hr;have hrl:=node_pl hr;have hrc:=node_ce hr
 simp only [Nat.zero_add] at hrp hrl hrc;have HRP:=hD hrp;have HRL:=hD hrl;have HRC:=hD hrc;clear hr hrp hrl hrc
 go_wp2_with (first | (refine ldPack p.n (w.heap.size+1) 7 rfl rfl rfl HRP.out ?_) | (refine ldPlace p.n (w.heap.size+1) 25 rfl rfl rfl HRL.out ?_) | (refine ldCell p.n (w.heap.size+1) 16 rfl rfl rfl HRC.out ?_))
 go_ret;exact ⟨rfl,HB.out⟩
theorem svalidNode_yes (A:Option Addr) (c:Nat) (R:List Nr) (i:Nat) (p:Nr) (b:Bool) (w:World) (h:NrV w A R) (hr:RdR w R) (hp:R[i]?=some p) (hL:R.length≤1048576) (hm:∀ p ∈ R,p.n.cs.length≤1048576∧p.n.rs.length≤1048576) (h0:spB p.n=true) (hb:(ownB p.n && (upB i p.n && clB (R.map Nr.n) i p.n))=b) :
  Calls Tryz.prog 80 #[.agg #[.slice A R.length c],.int .i64 i] w fun e w'=>e=.returned (.bool b)∧Below w.heap.size w w':=by
 have hi:i<R.length:=(List.getElem?_eq_some_iff.1 hp).1
 have hii:(i:Int)<(R.length:Int):=by omega
 have hmp:=hm p (List.mem_of_getElem? hp);obtain ⟨mp1,mp2⟩:=hmp;obtain ⟨bl,off,rfl,hbl,hc⟩:=h.cells (by omega);have hB0:Below w.heap.size w (w.alloc (.cells #[.slice (some ⟨bl,off,none⟩) R.length c] 30 (0,0))):=balloc (Below.refl _ _);have HX:=hD (newS w (.cells #[.slice (some ⟨bl,off,none⟩) R.length c] 30 (0,0)));have HLR:=hD (rangeB (hc i p hp) (hB0.block bl hbl));have HV:=hD (h.keep hB0)
 have HR:=hD (hr.keep hB0);have HB:=hD hB0;have HM:=hD hm;have HG:=hD hp;clear hc h hr hm hp hB0
 go_enter Tryz.func80,Tryz.ntmps80
 go_upto_region 2 with (first | (refine ldN _ p bl (off+i*34) rfl rfl rfl HLR.out ?_) | (refine stN (.tmp 5) (.tmp 11) p (w.heap.size+1) 0 rfl rfl rfl rfl (newS1T _ _ _) (by show (0+34:Nat)≤34;omega) ?_))
 refine wp_genGG (fun W=>W.heap[w.heap.size]?=some (.cells #[.slice (some ⟨bl,off,none⟩) R.length c] 30 (0,0))∧W.heap[w.heap.size+1]?=some (.cells (valsNr p).toArray 84 (0,0))∧NrV W (some ⟨bl,off,none⟩) R∧RdR W R∧Below w.heap.size w W) ?hw (fun W h0=>?_)
 case hw =>
  have hbb:Below (w.alloc (.cells #[.slice (some ⟨bl,off,none⟩) R.length c] 30 (0,0))).heap.size (w.alloc (.cells #[.slice (some ⟨bl,off,none⟩) R.length c] 30 (0,0))) (((w.alloc (.cells #[.slice (some ⟨bl,off,none⟩) R.length c] 30 (0,0))).alloc (.cells #[.int .i64 0,.int .i64 0,.int .i64 0,.bool false,.int .i64 0,.slice none 0 0,.slice none 0 0,.int .i64 0,.int .i64 0,.int .i64 0,.bool false,.bool false,.bool false,.int .i64 0,.int .i64 0,.int .i64 0,.int .i64 0,.int .i64 0,.int .i64 0,.int .i64 0,.int .i64 0,.int .i64 0,.int .i64 0,.int .i64 0,.int .i64 0,.int .i64 0,.int .i64 0,.int .i64 0,.int .i64 0,.int .i64 0,.int .i64 0,.int .i64 0,.int .i64 0,.int .i64 0] 84)).setCells (w.heap.size+1) 0 (valsNr p)):=below_setCells (by simp) _ _ _ (balloc (Below.refl _ _))
  exact ⟨(hbb.block _ (ltS HX.out)).trans HX.out,by rw [heap_setCells (valsNr p) 0 _ _ (newS1T w _ _),wrAt_all (by rfl)],HV.out.keep hbb,HR.out.keep hbb,bkeep2 HB.out hbb⟩
 clear HX HLR HV HR HB;obtain ⟨hx,hn,hv,hr,hb0⟩:=h0;have HX:=hD hx;have HN:=hD hn;have HV:=hD hv;have HR:=hD hr;have HB:=hD hb0;clear hx hn hv hr hb0;simp only [spB,Bool.and_eq_true] at h0;obtain ⟨h1,h2,h3,h4,h5,h6,h7,h8,h9⟩:=h0;have e5:=neb_t h5;have e6:=neb_t h6;have e8:=neb_t h8;have e9:=neb_t h9;have HBB:=hD hb;clear hb;have hr:=nodeAt HN.out
 obtain ⟨x0,x1,x2,x4,x5,x6,x7,x8,x20,x21⟩:=xs0_1_2_4_5_6_7_8_20_21 HN.out;have hrp:=node_pk hr;have hrl:=node_pl hr;have hrc:=node_ce hr;simp only [Nat.zero_add] at hrp hrl hrc;have HRP:=hD hrp;have HRL:=hD hrl;have HRC:=hD hrc;clear hr hrp hrl hrc
 go_wp2_with (first | (refine ldPack p.n (w.heap.size+1) 7 rfl rfl rfl HRP.out ?_) | (refine ldPlace p.n (w.heap.size+1) 25 rfl rfl rfl HRL.out ?_) | (refine ldCell p.n (w.heap.size+1) 16 rfl rfl rfl HRC.out ?_))
 with_reducible refine (inRange_w _ 0 30 true _ h1).mono ?_
 rintro e wq ⟨rfl,rfl⟩
 go_wp2_with (first | (refine ldPack p.n (w.heap.size+1) 7 rfl rfl rfl HRP.out ?_) | (refine ldPlace p.n (w.heap.size+1) 25 rfl rfl rfl HRL.out ?_) | (refine ldCell p.n (w.heap.size+1) 16 rfl rfl rfl HRC.out ?_))
 with_reducible refine (inRange_w _ 0 30 true _ h2).mono ?_
 rintro e wq ⟨rfl,rfl⟩
 go_wp2_with (first | (refine ldPack p.n (w.heap.size+1) 7 rfl rfl rfl HRP.out ?_) | (refine ldPlace p.n (w.heap.size+1) 25 rfl rfl rfl HRL.out ?_) | (refine ldCell p.n (w.heap.size+1) 16 rfl rfl rfl HRC.out ?_))
 with_reducible refine (inRange_w _ 0 2 true _ h3).mono ?_
 rintro e wq ⟨rfl,rfl⟩
 go_wp2_with (first | (refine ldPack p.n (w.heap.size+1) 7 rfl rfl rfl HRP.out ?_) | (refine ldPlace p.n (w.heap.size+1) 25 rfl rfl rfl HRL.out ?_) | (refine ldCell p.n (w.heap.size+1) 16 rfl rfl rfl HRC.out ?_))
 with_reducible refine (svp_v p.n.pk true h4 _).mono ?_
 rintro e v1 ⟨rfl,hb1⟩;clear x0 x1 x2 x4 x5 x6 x7 x8 x20 x21 HRP HRL HRC;replace HX:=hbk hb1 HX;replace HN:=hbk hb1 HN;replace HV:=hD (HV.out.keep hb1);replace HR:=hD (HR.out.keep hb1);replace HB:=hD (bkeep2 HB.out hb1);clear hb1;have hr:=nodeAt HN.out;obtain ⟨x0,x1,x2,x4,x5,x6,x7,x8,x20,x21⟩:=xs0_1_2_4_5_6_7_8_20_21 HN.out;have hrp:=node_pk hr;have hrl:=node_pl hr;have hrc:=node_ce hr
 simp only [Nat.zero_add] at hrp hrl hrc;have HRP:=hD hrp;have HRL:=hD hrl;have HRC:=hD hrc;clear hr hrp hrl hrc
 go_wp2_with (first | (refine ldPack p.n (w.heap.size+1) 7 rfl rfl rfl HRP.out ?_) | (refine ldPlace p.n (w.heap.size+1) 25 rfl rfl rfl HRL.out ?_) | (refine ldCell p.n (w.heap.size+1) 16 rfl rfl rfl HRC.out ?_))
 with_reducible refine (svalidPlace_t p.n.pl true _ h7).mono ?_
 rintro e v2 ⟨rfl,hb1⟩;clear x0 x1 x2 x4 x5 x6 x7 x8 x20 x21 HRP HRL HRC;replace HX:=hbk hb1 HX;replace HN:=hbk hb1 HN;replace HV:=hD (HV.out.keep hb1);replace HR:=hD (HR.out.keep hb1);replace HB:=hD (bkeep2 HB.out hb1);clear hb1;have hr:=nodeAt HN.out;obtain ⟨x0,x1,x2,x4,x5,x6,x7,x8,x20,x21⟩:=xs0_1_2_4_5_6_7_8_20_21 HN.out;have hrp:=node_pk hr;have hrl:=node_pl hr;have hrc:=node_ce hr
 simp only [Nat.zero_add] at hrp hrl hrc;have HRP:=hD hrp;have HRL:=hD hrl;have HRC:=hD hrc;clear hr hrp hrl hrc;clear h1 h2 h3 h4 h5 h6 h7 h8 h9;unfold ownB at HBB
 go_upto_region 4 with ((first | (refine ldPack p.n (w.heap.size+1) 7 rfl rfl rfl HRP.out ?_) | (refine ldPlace p.n (w.heap.size+1) 25 rfl rfl rfl HRL.out ?_) | (refine ldCell p.n (w.heap.size+1) 16 rfl rfl rfl HRC.out ?_)))
 by_cases hk:p.n.ki=1
 ·rw [if_pos hk] at HBB;rw [hk] at x4;have HK:=hD hk;clear hk
  cases g1:linesB p.n.cs
  ·obtain rfl:false=b:=by rw [<- HBB.out,g1];rfl
   have HPC:=hD (HR.out p (List.mem_of_getElem? HG.out))
   go_wp2_with fail
   with_reducible refine (svalidLines_v p.ca p.cc p.n.cs false _ HPC.out.c mp1 g1).mono ?_
   rintro e u1 ⟨rfl,hb1⟩;clear x0 x1 x2 x4 x5 x6 x7 x8 x20 x21 HRP HRL HRC;replace HB:=hD (bkeep2 HB.out hb1);clear hb1;go_wp2;go_ret;exact ⟨rfl,HB.out⟩
  ·cases g2:linesB p.n.rs
   ·obtain rfl:false=b:=by rw [<- HBB.out,g1,g2];rfl
    have HPC:=hD (HR.out p (List.mem_of_getElem? HG.out))
    go_wp2_with fail
    with_reducible refine (svalidLines_v p.ca p.cc p.n.cs true _ HPC.out.c mp1 g1).mono ?_
    rintro e u1 ⟨rfl,hb1⟩;clear x0 x1 x2 x4 x5 x6 x7 x8 x20 x21 HRP HRL HRC;replace HX:=hbk hb1 HX;replace HN:=hbk hb1 HN;replace HV:=hD (HV.out.keep hb1);replace HR:=hD (HR.out.keep hb1);replace HB:=hD (bkeep2 HB.out hb1);clear hb1;have hr:=nodeAt HN.out;obtain ⟨x0,x1,x2,x4,x5,x6,x7,x8,x20,x21⟩:=xs0_1_2_4_5_6_7_8_20_21 HN.out;have hrp:=node_pk hr;have hrl:=node_pl hr;have hrc:=node_ce hr
    simp only [Nat.zero_add] at hrp hrl hrc;have HRP:=hD hrp;have HRL:=hD hrl;have HRC:=hD hrc;clear hr hrp hrl hrc;rw [HK.out] at x4;have HPC:=hD (HR.out p (List.mem_of_getElem? HG.out))
    go_wp2_with fail
    with_reducible refine (svalidLines_v p.ra p.rc p.n.rs false _ HPC.out.r mp2 g2).mono ?_
    rintro e u2 ⟨rfl,hb1⟩;clear x0 x1 x2 x4 x5 x6 x7 x8 x20 x21 HRP HRL HRC;replace HX:=hbk hb1 HX;replace HN:=hbk hb1 HN;replace HV:=hD (HV.out.keep hb1);replace HR:=hD (HR.out.keep hb1);replace HB:=hD (bkeep2 HB.out hb1);clear hb1;have hr:=nodeAt HN.out;obtain ⟨x0,x1,x2,x4,x5,x6,x7,x8,x20,x21⟩:=xs0_1_2_4_5_6_7_8_20_21 HN.out;have hrp:=node_pk hr;have hrl:=node_pl hr;have hrc:=node_ce hr
    simp only [Nat.zero_add] at hrp hrl hrc;have HRP:=hD hrp;have HRL:=hD hrl;have HRC:=hD hrc;clear hr hrp hrl hrc;rw [HK.out] at x4;go_wp2;go_ret;exact ⟨rfl,HB.out⟩
   ·have hb2:(upB i p.n && clB (R.map Nr.n) i p.n)=b:=by rw [<- HBB.out,g1,g2];rfl
    have HB2:=hD hb2;clear hb2 HBB;have HPC:=hD (HR.out p (List.mem_of_getElem? HG.out))
    go_wp2_with fail
    with_reducible refine (svalidLines_v p.ca p.cc p.n.cs true _ HPC.out.c mp1 g1).mono ?_
    rintro e u1 ⟨rfl,hb1⟩;clear x0 x1 x2 x4 x5 x6 x7 x8 x20 x21 HRP HRL HRC;replace HX:=hbk hb1 HX;replace HN:=hbk hb1 HN;replace HV:=hD (HV.out.keep hb1);replace HR:=hD (HR.out.keep hb1);replace HB:=hD (bkeep2 HB.out hb1);clear hb1;have hr:=nodeAt HN.out;obtain ⟨x0,x1,x2,x4,x5,x6,x7,x8,x20,x21⟩:=xs0_1_2_4_5_6_7_8_20_21 HN.out;have hrp:=node_pk hr;have hrl:=node_pl hr;have hrc:=node_ce hr
    simp only [Nat.zero_add] at hrp hrl hrc;have HRP:=hD hrp;have HRL:=hD hrl;have HRC:=hD hrc;clear hr hrp hrl hrc;rw [HK.out] at x4;have HPC:=hD (HR.out p (List.mem_of_getElem? HG.out))
    go_wp2_with fail
    with_reducible refine (svalidLines_v p.ra p.rc p.n.rs true _ HPC.out.r mp2 g2).mono ?_
    rintro e u2 ⟨rfl,hb1⟩;clear x0 x1 x2 x4 x5 x6 x7 x8 x20 x21 HRP HRL HRC;replace HX:=hbk hb1 HX;replace HN:=hbk hb1 HN;replace HV:=hD (HV.out.keep hb1);replace HR:=hD (HR.out.keep hb1);replace HB:=hD (bkeep2 HB.out hb1);clear hb1;have hr:=nodeAt HN.out;obtain ⟨x0,x1,x2,x4,x5,x6,x7,x8,x20,x21⟩:=xs0_1_2_4_5_6_7_8_20_21 HN.out;have hrp:=node_pk hr;have hrl:=node_pl hr;have hrc:=node_ce hr
    simp only [Nat.zero_add] at hrp hrl hrc;have HRP:=hD hrp;have HRL:=hD hrl;have HRC:=hD hrc;clear hr hrp hrl hrc;rw [HK.out] at x4
    go_upto_region 6 with (fail)
    by_cases hz:i=0
    ·subst hz
     have hbz:(p.n.pa == -1)=b:=by rw [<- HB2.out];simp only [upB,clB,if_true,Bool.and_true];rfl
     have HBZ:=hD hbz;clear hbz HB2;go_wp2;go_ret;exact ⟨ret_bool HBZ.out,HB.out⟩
    ·have z0:((i:Int) == 0)=false:=by rw [beq_eq_false_iff_ne];omega
     have z1:decide ((i:Int)=0)=false:=decide_eq_false (by omega)
     cases hu:upB i p.n
     ·obtain rfl:false=b:=by rw [<- HB2.out,hu];rfl
      have hu2:rng p.n.pa 0 ((i:Int) - 1)=false:=by have:=hu;unfold upB at this;rwa [if_neg hz] at this
      go_wp2_with fail
      with_reducible refine (inRange_w p.n.pa 0 ((i:Int) - 1) false _ hu2).mono ?_
      rintro e wq ⟨rfl,rfl⟩;go_wp2;go_ret;exact ⟨rfl,HB.out⟩
     ·have hu2:rng p.n.pa 0 ((i:Int) - 1)=true:=by have:=hu;unfold upB at this;rwa [if_neg hz] at this
      have hb3:clB (R.map Nr.n) i p.n=b:=by rw [<- HB2.out,hu];rfl
      obtain ⟨m,hpm⟩:=Int.eq_ofNat_of_zero_le (rng_iff.1 hu2).1
      have hmi:m<i:=by have:=(rng_iff.1 hu2).2;omega
      have hml:m<R.length:=by omega
      have hmu:R[m]?=some R[m]:=List.getElem?_eq_getElem hml;unfold clB at hb3;rw [if_neg hz,hpm] at hb3;simp only [Int.toNat_natCast] at hb3;rw [List.getElem?_map,hmu] at hb3;simp only [Option.map_some] at hb3;have hmm:=HM.out _ (List.mem_of_getElem? hmu);generalize R[m]=u at *;obtain ⟨mu1,mu2⟩:=hmm;obtain ⟨bl2,off2,e9,hbl2,hcu⟩:=HV.out.cells (by omega)
      cases e9
      have HU:=hD (hcu m u hmu);have HB3:=hD hb3
      have hmr:(m:Int)<(R.length:Int):=by omega
      rw [hpm] at x0 hu2;have hx0:=cellS HX.out 0;clear hcu hmu hb3 HB2 hu hpm
      go_wp2_with fail
      with_reducible refine (inRange_w (m:Int) 0 ((i:Int) - 1) true _ hu2).mono ?_
      rintro e wq ⟨rfl,rfl⟩;have hsz:w.heap.size+1<u2.heap.size:=ltS HN.out
      go_upto_region 11 with (first | (refine ldN _ u bl (off+m*34) rfl rfl rfl HU.out ?_) | (refine stN (.tmp 6) (.tmp 112) u u2.heap.size 0 rfl rfl rfl rfl (newS _ _) (by show (0+34:Nat)≤34;omega) ?_))
      refine wp_genGG (fun W=>W.heap[u2.heap.size]?=some (.cells (valsNr u).toArray 84 (0,0))∧Below u2.heap.size u2 W) ⟨new_full u rfl rfl,below_setCells (Nat.le_refl _) _ _ _ (balloc (Below.refl _ _))⟩ (fun W9 h9=>?_);obtain ⟨hn9,hb9⟩:=h9;have HN9:=hD hn9;clear x0 x1 x2 x4 x5 x6 x7 x8 x20 x21 HRP HRL HRC hx0;replace HX:=hbk hb9 HX;replace HN:=hbk hb9 HN;replace HB:=hD (bkeep2 HB.out hb9)
      clear hb9;have y4:W9.cell? ⟨u2.heap.size,4,none⟩=some (.int .i64 u.n.ki):=cellS HN9.out 4;have y5:W9.cell? ⟨u2.heap.size,5,none⟩=some (.slice u.ca u.n.cs.length u.cc):=cellS HN9.out 5;have y6:W9.cell? ⟨u2.heap.size,6,none⟩=some (.slice u.ra u.n.rs.length u.rc):=cellS HN9.out 6;clear hn9
      by_cases hq:u.n.ki=1
      ·rw [hq] at y4
       have hcb:cellB u.n.cs.length u.n.rs.length p.n.ce=b:=by rw [<- HB3.out];simp [hq]
       have HCB:=hD hcb;have hrc:=node_ce (nodeAt HN.out);simp only [Nat.zero_add] at hrc;have HRC:=hD hrc;clear hq hcb HB3 hrc
       go_wp2_with (refine ldCell p.n (w.heap.size+1) 16 rfl rfl rfl HRC.out ?_)
       with_reducible refine (svalidCell_v p.n.ce u.n.cs.length u.n.rs.length 0 u.cc u.rc 0 u.ca u.ra none b _ mu1 mu2 HCB.out).mono ?_
       rintro e u9 ⟨rfl,hbu⟩;clear y4 y5 y6 HRC;replace HB:=hD (bkeep2 HB.out hbu);clear hbu;go_wp2;go_ret;exact ⟨rfl,HB.out⟩
      ·obtain rfl:true=b:=by rw [<- HB3.out];simp [hq]
       have f9:(u.n.ki == 1)=false:=by rw [beq_eq_false_iff_ne];exact hq
       have f8:(u.n.ki != 1)=true:=by simp [bne,f9]
       have f7:decide (u.n.ki=1)=false:=decide_eq_false hq;have HQ:=hD hq;clear hq;go_wp2;go_ret;exact ⟨rfl,HB.out⟩
 ·rw [if_neg hk] at HBB
  have f1:(p.n.ki == 1)=false:=by rw [beq_eq_false_iff_ne];exact hk
  have f2:(p.n.ki != 1)=true:=by simp [bne,f1]
  have f1':decide (p.n.ki=1)=false:=decide_eq_false hk;have HK:=hD hk;clear hk
  by_cases g1:p.n.cs.length=0
  ·rw [g1] at x5
   by_cases g2:p.n.rs.length=0
   ·rw [g2] at x6
    have hb2:(upB i p.n && clB (R.map Nr.n) i p.n)=b:=by rw [<- HBB.out,decide_eq_true g1,decide_eq_true g2];rfl
    have HB2:=hD hb2;clear hb2 HBB g1 g2
    go_upto_region 6 with (fail)
    by_cases hz:i=0
    ·subst hz
     have hbz:(p.n.pa == -1)=b:=by rw [<- HB2.out];simp only [upB,clB,if_true,Bool.and_true];rfl
     have HBZ:=hD hbz;clear hbz HB2;go_wp2;go_ret;exact ⟨ret_bool HBZ.out,HB.out⟩
    ·have z0:((i:Int) == 0)=false:=by rw [beq_eq_false_iff_ne];omega
     have z1:decide ((i:Int)=0)=false:=decide_eq_false (by omega)
     cases hu:upB i p.n
     ·obtain rfl:false=b:=by rw [<- HB2.out,hu];rfl
      have hu2:rng p.n.pa 0 ((i:Int) - 1)=false:=by have:=hu;unfold upB at this;rwa [if_neg hz] at this
      go_wp2_with fail
      with_reducible refine (inRange_w p.n.pa 0 ((i:Int) - 1) false _ hu2).mono ?_
      rintro e wq ⟨rfl,rfl⟩;go_wp2;go_ret;exact ⟨rfl,HB.out⟩
     ·have hu2:rng p.n.pa 0 ((i:Int) - 1)=true:=by have:=hu;unfold upB at this;rwa [if_neg hz] at this
      have hb3:clB (R.map Nr.n) i p.n=b:=by rw [<- HB2.out,hu];rfl
      obtain ⟨m,hpm⟩:=Int.eq_ofNat_of_zero_le (rng_iff.1 hu2).1
      have hmi:m<i:=by have:=(rng_iff.1 hu2).2;omega
      have hml:m<R.length:=by omega
      have hmu:R[m]?=some R[m]:=List.getElem?_eq_getElem hml;unfold clB at hb3;rw [if_neg hz,hpm] at hb3;simp only [Int.toNat_natCast] at hb3;rw [List.getElem?_map,hmu] at hb3;simp only [Option.map_some] at hb3;have hmm:=HM.out _ (List.mem_of_getElem? hmu);generalize R[m]=u at *;obtain ⟨mu1,mu2⟩:=hmm;obtain ⟨bl2,off2,e9,hbl2,hcu⟩:=HV.out.cells (by omega)
      cases e9
      have HU:=hD (hcu m u hmu);have HB3:=hD hb3
      have hmr:(m:Int)<(R.length:Int):=by omega
      rw [hpm] at x0 hu2;have hx0:=cellS HX.out 0;clear hcu hmu hb3 HB2 hu hpm
      go_wp2_with fail
      with_reducible refine (inRange_w (m:Int) 0 ((i:Int) - 1) true _ hu2).mono ?_
      rintro e wq ⟨rfl,rfl⟩;have hsz:w.heap.size+1<v2.heap.size:=ltS HN.out
      go_upto_region 11 with (first | (refine ldN _ u bl (off+m*34) rfl rfl rfl HU.out ?_) | (refine stN (.tmp 6) (.tmp 112) u v2.heap.size 0 rfl rfl rfl rfl (newS _ _) (by show (0+34:Nat)≤34;omega) ?_))
      refine wp_genGG (fun W=>W.heap[v2.heap.size]?=some (.cells (valsNr u).toArray 84 (0,0))∧Below v2.heap.size v2 W) ⟨new_full u rfl rfl,below_setCells (Nat.le_refl _) _ _ _ (balloc (Below.refl _ _))⟩ (fun W9 h9=>?_);obtain ⟨hn9,hb9⟩:=h9;have HN9:=hD hn9;clear x0 x1 x2 x4 x5 x6 x7 x8 x20 x21 HRP HRL HRC hx0;replace HX:=hbk hb9 HX;replace HN:=hbk hb9 HN;replace HB:=hD (bkeep2 HB.out hb9)
      clear hb9;have y4:W9.cell? ⟨v2.heap.size,4,none⟩=some (.int .i64 u.n.ki):=cellS HN9.out 4;have y5:W9.cell? ⟨v2.heap.size,5,none⟩=some (.slice u.ca u.n.cs.length u.cc):=cellS HN9.out 5;have y6:W9.cell? ⟨v2.heap.size,6,none⟩=some (.slice u.ra u.n.rs.length u.rc):=cellS HN9.out 6;clear hn9
      by_cases hq:u.n.ki=1
      ·rw [hq] at y4
       have hcb:cellB u.n.cs.length u.n.rs.length p.n.ce=b:=by rw [<- HB3.out];simp [hq]
       have HCB:=hD hcb;have hrc:=node_ce (nodeAt HN.out);simp only [Nat.zero_add] at hrc;have HRC:=hD hrc;clear hq hcb HB3 hrc
       go_wp2_with (refine ldCell p.n (w.heap.size+1) 16 rfl rfl rfl HRC.out ?_)
       with_reducible refine (svalidCell_v p.n.ce u.n.cs.length u.n.rs.length 0 u.cc u.rc 0 u.ca u.ra none b _ mu1 mu2 HCB.out).mono ?_
       rintro e u9 ⟨rfl,hbu⟩;clear y4 y5 y6 HRC;replace HB:=hD (bkeep2 HB.out hbu);clear hbu;go_wp2;go_ret;exact ⟨rfl,HB.out⟩
      ·obtain rfl:true=b:=by rw [<- HB3.out];simp [hq]
       have f9:(u.n.ki == 1)=false:=by rw [beq_eq_false_iff_ne];exact hq
       have f8:(u.n.ki != 1)=true:=by simp [bne,f9]
       have f7:decide (u.n.ki=1)=false:=decide_eq_false hq;have HQ:=hD hq;clear hq;go_wp2;go_ret;exact ⟨rfl,HB.out⟩
   ·have k2:decide ((0:Int)<((p.n.rs.length:Nat):Int))=true:=decide_eq_true (by omega)
    have k2n:0<p.n.rs.length:=by omega
    obtain rfl:false=b:=by rw [<- HBB.out,decide_eq_false g2,Bool.and_false];rfl
    clear g1 g2;go_wp2;go_ret;exact ⟨rfl,HB.out⟩
  ·have k1:decide ((0:Int)<((p.n.cs.length:Nat):Int))=true:=decide_eq_true (by omega)
   have k1n:0<p.n.cs.length:=by omega
   obtain rfl:false=b:=by rw [<- HBB.out,decide_eq_false g1,Bool.false_and];rfl
   clear g1;go_wp2;go_ret;exact ⟨rfl,HB.out⟩
theorem svalidTree_v (A:Option Addr) (c:Nat) (R:List Nr) (b:Bool) (w:World) (h:NrV w A R) (hr:RdR w R) (hL:R.length≤1048576) (hm:∀ p ∈ R,p.n.cs.length≤1048576∧p.n.rs.length≤1048576) (hb:treeB (R.map Nr.n)=b) :
  Calls Tryz.prog 42 #[.agg #[.slice A R.length c]] w fun e w'=>e=.returned (.bool b)∧Below w.heap.size w w':=by
 have hB0:Below w.heap.size w (w.alloc (.cells #[.slice A R.length c] 30 (0,0))):=balloc (Below.refl _ _);have HX:=hD (newS w (.cells #[.slice A R.length c] 30 (0,0)));have HB:=hD hB0;have HV:=hD (h.keep hB0);have HR:=hD (hr.keep hB0);have HM:=hD hm;have HBB:=hD hb;clear hB0 h hr hm hb
 go_enter Tryz.func42,Tryz.ntmps42
 go_wp2_with fail
 go_loopw [3] (fun i wr=>∃ k:Nat,k≤R.length∧i=.int .i64 k∧(List.range k).all (nokB (R.map Nr.n))=true∧wr.heap[w.heap.size]?=some (.cells #[.slice A R.length c] 30 (0,0))∧NrV wr A R∧RdR wr R∧Below w.heap.size w wr) (fun i _=>R.length - (intOf i).toNat)
 case atStart=>exact ⟨0,by omega,rfl,rfl,HX.out,HV.out,HR.out,HB.out⟩
 case round =>
  obtain ⟨k,hk,rfl,hall,hx,hv,hr,hB⟩:=hrel;clear HX HV HR HB;have hx0:=cellS hx 0;have lx:=ltS hx;have HX:=hD hx;have HV:=hD hv;have HR:=hD hr;have HB:=hD hB;have HALL:=hD hall;clear hx hv hr hB hall
  by_cases hlt:k<R.length
  ·have hd:decide ((k:Int)<(R.length:Int))=true:=by simpa using hlt
   have hget:R[k]?=some R[k]:=List.getElem?_eq_getElem hlt;generalize R[k]=p at *;have hnb:nokB (R.map Nr.n) k=(ndB p.n && (upB k p.n && clB (R.map Nr.n) k p.n)):=nokB_at (by rw [List.getElem?_map,hget];rfl);rw [nd_sp] at hnb;have HNB:=hD hnb;have HG:=hD hget;clear hnb hget
   have hcv:∀ cb,nokB (R.map Nr.n) k=cb→Calls Tryz.prog 80 #[.agg #[.slice A R.length c],.int .i64 k] wr fun e w'=>e=.returned (.bool cb)∧Below wr.heap.size wr w':=by
    intro cb hcb;rw [HNB.out] at hcb
    cases h0:spB p.n
    ·obtain rfl:false=cb:=by rw [<- hcb,h0];rfl
     exact svalidNode_no A c R k p _ HV.out HR.out HG.out hL HM.out h0
    ·exact svalidNode_yes A c R k p cb _ HV.out HR.out HG.out hL HM.out h0 (by rw [<- hcb,h0,Bool.true_and])
   cases h1:nokB (R.map Nr.n) k
   ·have HC:=hD (hcv false h1);clear hcv HNB
    go_wp2_with fail
    with_reducible refine (HC.out).mono ?_
    rintro e w1 ⟨rfl,hb⟩;clear hx0 HC;replace HB:=hD (bkeep2 HB.out hb);clear hb;have HH1:=hD h1;clear h1;go_wp2;go_ret;refine ⟨ret_bool ?_,HB.out⟩;rw [<- HBB.out];unfold treeB;rw [List.length_map,all_falseG (k:=k) (p:=k) (by rw [List.getElem?_range (by omega)]) HH1.out,Bool.and_false]
   ·have HC:=hD (hcv true h1);clear hcv HNB
    go_wp2_with fail
    with_reducible refine (HC.out).mono ?_
    rintro e w1 ⟨rfl,hb⟩;clear hx0 HC;replace HX:=hbk hb HX;replace HV:=hD (HV.out.keep hb);replace HR:=hD (HR.out.keep hb);replace HB:=hD (bkeep2 HB.out hb);clear hb;have HH1:=hD h1;clear h1;go_wp2
    go_roundw
    case rel=>exact ⟨k+1,by omega,by go_num,by rw [range_all_succ,HALL.out,HH1.out];rfl,HX.out,HV.out,HR.out,HB.out⟩
    case measure=>simp [intOf];omega
  ·have hd:decide ((k:Int)<(R.length:Int))=false:=decide_eq_false (by omega)
   obtain rfl:k=R.length:=by omega
   cases hl:rng R.length 1 10
   ·obtain rfl:false=b:=by rw [<- HBB.out];unfold treeB;rw [List.length_map,hl];rfl
    go_wp2_with fail
    with_reducible refine (inRange_w _ 1 10 false _ hl).mono ?_
    rintro e wq ⟨rfl,rfl⟩;go_wp2;go_ret;exact ⟨rfl,HB.out⟩
   ·obtain rfl:true=b:=by rw [<- HBB.out];unfold treeB;rw [List.length_map,hl,HALL.out];rfl
    go_wp2_with fail
    with_reducible refine (inRange_w _ 1 10 true _ hl).mono ?_
    rintro e wq ⟨rfl,rfl⟩;go_wp2;go_ret;exact ⟨rfl,HB.out⟩
end
section
theorem ValidTree_n (A:Option Addr) (c k:Nat) (R:List Nr) (b:Bool) (w:World) (hk:k=R.length) (h:NrV w A R) (hr:RdR w R) (hL:R.length≤1048576) (hm:∀ p ∈ R,p.n.cs.length≤1048576∧p.n.rs.length≤1048576) (hb:treeB (R.map Nr.n)=b) :
  Calls Tryz.prog 46 #[.agg #[.slice A k c]] w fun e w'=>e=.returned (.bool b)∧Below w.heap.size w w':=by
 subst hk;exact ValidTree_v A c R b w h hr hL hm hb
theorem svalidTree_n (A:Option Addr) (c k:Nat) (R:List Nr) (b:Bool) (w:World) (hk:k=R.length) (h:NrV w A R) (hr:RdR w R) (hL:R.length≤1048576) (hm:∀ p ∈ R,p.n.cs.length≤1048576∧p.n.rs.length≤1048576) (hb:treeB (R.map Nr.n)=b) :
  Calls Tryz.prog 42 #[.agg #[.slice A k c]] w fun e w'=>e=.returned (.bool b)∧Below w.heap.size w w':=by
 subst hk;exact svalidTree_v A c R b w h hr hL hm hb
end
section

end
section
theorem trOK_of {L:List Nd} (h:treeB L=true):TrOK L where
 l1:=(tree_len h).1
 l10:=(tree_len h).2
 up:=fun k n hn=>by
  obtain ⟨_,hu,_⟩:=tree_nok h hn;unfold upB at hu
  split at hu
  ·rename_i e;exact .inl ⟨e,by simpa using hu⟩
  ·rename_i e;rw [rng_iff] at hu;right;omega
 sz:=fun k n hn=>by
  obtain ⟨hd,_,_⟩:=tree_nok h hn;simp only [ndB,Bool.and_eq_true,rng_iff] at hd;obtain ⟨⟨h1,h2⟩,h3,_⟩:=hd;exact ⟨h1,h2,by omega⟩
 pk:=fun k n hn=>by
  obtain ⟨hd,_,_⟩:=tree_nok h hn;simp only [ndB,Bool.and_eq_true] at hd;exact hd.2.2.2.1
 pl:=fun k n hn=>by
  obtain ⟨hd,_,_⟩:=tree_nok h hn;simp only [ndB,Bool.and_eq_true] at hd;exact hd.2.2.2.2.2.2.2.2
 li:=fun k n hn h1=>own_lines (tree_nok h hn).1 h1
 ce:=fun k n u hn h0 hu h1=>by
  obtain ⟨_,_,hc⟩:=tree_nok h hn;unfold clB at hc;rw [if_neg (by omega),hu] at hc
  simpa [h1] using hc
def WsV (lo:Nat) (w:World) (R:List Nr) (v:Value):Prop:=∃ g:Nat,v=.slice (some ⟨g,0,none⟩) R.length R.length∧lo≤g∧RbK 2 w g 93 ((List.range R.length).map fun k=>valsWi (szM (R.map Nr.n) k))
theorem WsV.keep {lo:Nat} {w w':World} {R:List Nr} {v:Value} (h:WsV lo w R v) (hb:Below w.heap.size w w'):WsV lo w' R v:=let ⟨g,e,hl,k⟩:=h;⟨g,e,hl,k.keep hb⟩
theorem WsV.mono {lo lo':Nat} {w:World} {R:List Nr} {v:Value} (h:WsV lo w R v) (hl:lo'≤lo):WsV lo' w R v:=let ⟨g,e,h1,k⟩:=h;⟨g,e,by omega,k⟩
theorem wishes_eq {w:World} {R:List Nr} {X:List Wd} (hl:X.length=R.length) (hx:∀ i x,X[i]?=some x→WdK 0 w R i x):(X.map fun y=>valsWi (y.sw,y.sh))=(List.range R.length).map fun k=>valsWi (szM (R.map Nr.n) k):=by
 refine List.ext_getElem? fun i=>?_
 rw [List.getElem?_map,List.getElem?_map]
 by_cases hi:i<R.length
 ·have e:X[i]?=some X[i]:=List.getElem?_eq_getElem (by omega);obtain ⟨p,_,_,e2,_⟩:=hx i _ e;rw [e,List.getElem?_range hi];simp only [Option.map_some];rw [e2]
 ·rw [List.getElem?_eq_none (by omega),List.getElem?_eq_none (by simp;omega)];rfl
theorem requests_v (A:Option Addr) (c k:Nat) (R:List Nr) (w:World) (hT:TrOK (R.map Nr.n)) (hk:k=R.length) (h:NrV w A R) (hr:RdR w R) :
  Calls Tryz.prog 76 #[.agg #[.slice A k c]] w fun e w'=>(∃ v,e=.returned v∧WsV w.heap.size w' R v)∧Below w.heap.size w w':=by
 subst hk
 have hL:R.length≤10:=by have:=hT.l10;rwa [List.length_map] at this
 have hB0:Below w.heap.size w (w.alloc (.cells #[.slice A R.length c] 30 (0,0))):=balloc (Below.refl _ _);have HX:=hD (newS w (.cells #[.slice A R.length c] 30 (0,0)));have HB:=hD hB0;have HV:=hD (h.keep hB0);have HR:=hD (hr.keep hB0);have x0:=cellS HX.out 0;clear hB0 h hr
 go_enter Tryz.func76,Tryz.ntmps76
 go_wp2_with fail
 with_reducible refine (settled_v A c R hT _ HV.out HR.out hL).mono ?_
 rintro e w1 ⟨⟨v,rfl,g,X,rfl,hg,X1,X2,X3⟩,hb⟩;clear x0;replace HX:=hbk hb HX;replace HB:=hD (bkeep2 HB.out hb);clear hb;have HX2:=hD X2.v;have HE:=hD (wishes_eq X1 X3);have HX1:=hD X1;clear X1 X2 X3 hg
 go_wp2_with fail
 with_reducible refine (each_wishes _ _ R.length X _ HX2.out HX1.out.symm (by omega)).mono ?_
 rintro e w2 ⟨rfl,hq,hb⟩;rw [HE.out] at hq;have HQ:=hD hq;have hs1:=HB.out.size;clear hq;replace HB:=hD (bkeep2 HB.out hb);clear hb;go_wp2;go_ret;exact ⟨⟨_,rfl,_,rfl,hs1,HQ.out⟩,HB.out⟩
def rqM (L:List Nd) (i:Int):Int × Int:=if (treeB L && rng i 0 ((L.length:Int) - 1))=true then szM L i.toNat else (-1,-1)
theorem WsV.at {lo:Nat} {w:World} {R:List Nr} {g:Nat} (h:RbK 2 w g 93 ((List.range R.length).map fun k=>valsWi (szM (R.map Nr.n) k))) {j:Nat} (hj:j<R.length):w.cell? ⟨g,j*2,none⟩=some (.int .i64 (szM (R.map Nr.n) j).1)∧w.cell? ⟨g,j*2+1,none⟩=some (.int .i64 (szM (R.map Nr.n) j).2):=by
 obtain ⟨cs,hh,hs,hc⟩:=h
 have:=hc j (valsWi (szM (R.map Nr.n) j)) (by simpa using hj) (by rw [List.getElem?_map,List.getElem?_range hj];rfl)
 exact ⟨(cellS hh _).trans (this 0 _ rfl),(cellS hh _).trans (this 1 _ rfl)⟩
end
end Go.Proofs.YtenckjdiggaonaaGreat
