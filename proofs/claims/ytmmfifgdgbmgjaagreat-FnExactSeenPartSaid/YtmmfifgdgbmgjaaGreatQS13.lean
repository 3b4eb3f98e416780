import Derived.Test.YtmmfifgdgbmgjaaGreatQS12
set_option linter.unusedVariables false
set_option linter.unusedSimpArgs false
set_option maxRecDepth 100000
set_option maxHeartbeats 16000000
namespace Go.Proofs.YtmmfifgdgbmgjaaGreat
open Go.RowKit
attribute [local go_sem] growUpon_value growUpon_skip growUpon_enter
def spB (n:Nd):Bool:=rng n.ww 0 30&&(rng n.hh 0 30&&(rng n.ki 0 2&&(n.pk.ok&&(decide (n.pk.w=0)&&(decide (n.pk.h=0)&&(plB n.pl&&(decide (n.ce.cw=0)&&decide (n.ce.ch=0))))))))
theorem nd_sp (n:Nd):ndB n=(spB n&&ownB n):=by
 unfold ndB spB;generalize rng n.ww 0 30=a1;generalize rng n.hh 0 30=a2;generalize rng n.ki 0 2=a3;generalize ownB n=a4;generalize n.pk.ok=a5;generalize decide (n.pk.w=0)=a6;generalize decide (n.pk.h=0)=a7;generalize decide (n.ce.cw=0)=a8;generalize decide (n.ce.ch=0)=a9;generalize plB n.pl=b1
 cases a1 <;> cases a2 <;> cases a3 <;> cases a4 <;> cases a5 <;> cases a6 <;> cases a7 <;> cases a8 <;> cases a9 <;> cases b1 <;> rfl
theorem neb_t {x:Int} (h:decide (x=0)=true):(x != 0)=false:=by simp [bne,eqb_t h]
theorem neb_f {x:Int} (h:decide (x=0)=false):(x != 0)=true:=by simp [bne,eqb_f h]
theorem svalidNode_no (A:Option Addr) (c:Nat) (R:List Nr) (i:Nat) (p:Nr) (w:World) (h:NrV w A R) (hr:RdR w R) (hp:R[i]?=some p) (hL:R.length≤1048576) (hm:∀ p∈R,p.n.cs.length≤1048576∧p.n.rs.length≤1048576) (hb:spB p.n=false) :
  Calls Tryz.prog 70 #[.agg #[.slice A R.length c],.int .i64 i] w fun e w'=>e=.returned (.bool false)∧Below w.heap.size w w':=by
 have hi:i<R.length:=(List.getElem?_eq_some_iff.1 hp).1
 have hii:(i:Int)<(R.length:Int):=by omega
 have hmp:=hm p (List.mem_of_getElem? hp);obtain ⟨mp1,mp2⟩:=hmp;obtain ⟨bl,off,rfl,hbl,hc⟩:=h.cells (by omega);have hB0:Below w.heap.size w (w.alloc (.cells #[.slice (some ⟨bl,off,none⟩) R.length c] 30 (0,0))):=balloc (Below.refl _ _);have HX:=hD (newS w (.cells #[.slice (some ⟨bl,off,none⟩) R.length c] 30 (0,0)));have HLR:=hD (rangeB (hc i p hp) (hB0.block bl hbl));have HV:=hD (h.keep hB0)
 have HR:=hD (hr.keep hB0);have HB:=hD hB0;have HM:=hD hm;have HG:=hD hp;clear hc h hr hm hp hB0
 go_enter Tryz.func70,Tryz.ntmps70
 go_upto_region 2 with (first|(refine ldN _ p bl (off+i*34) rfl rfl rfl HLR.out ?_)|(refine stN (.tmp 5) (.tmp 11) p (w.heap.size+1) 0 rfl rfl rfl rfl (newS1T _ _ _) (by show (0+34:Nat)≤34;omega) ?_))
 refine wp_genGG (fun W=>W.heap[w.heap.size]?=some (.cells #[.slice (some ⟨bl,off,none⟩) R.length c] 30 (0,0))∧W.heap[w.heap.size+1]?=some (.cells (valsNr p).toArray 90 (0,0))∧NrV W (some ⟨bl,off,none⟩) R∧RdR W R∧Below w.heap.size w W) ?hw (fun W h0=>?_)
 case hw =>
  have hbb:Below (w.alloc (.cells #[.slice (some ⟨bl,off,none⟩) R.length c] 30 (0,0))).heap.size (w.alloc (.cells #[.slice (some ⟨bl,off,none⟩) R.length c] 30 (0,0))) (((w.alloc (.cells #[.slice (some ⟨bl,off,none⟩) R.length c] 30 (0,0))).alloc (.cells #[.int .i64 0,.int .i64 0,.int .i64 0,.bool false,.int .i64 0,.slice none 0 0,.slice none 0 0,.int .i64 0,.int .i64 0,.int .i64 0,.bool false,.bool false,.bool false,.int .i64 0,.int .i64 0,.int .i64 0,.int .i64 0,.int .i64 0,.int .i64 0,.int .i64 0,.int .i64 0,.int .i64 0,.int .i64 0,.int .i64 0,.int .i64 0,.int .i64 0,.int .i64 0,.int .i64 0,.int .i64 0,.int .i64 0,.int .i64 0,.int .i64 0,.int .i64 0,.int .i64 0] 90)).setCells (w.heap.size+1) 0 (valsNr p)):=below_setCells (by simp) _ _ _ (balloc (Below.refl _ _))
  exact ⟨(hbb.block _ (ltS HX.out)).trans HX.out,by rw [heap_setCells (valsNr p) 0 _ _ (newS1T w _ _),wrAt_all (by rfl)],HV.out.keep hbb,HR.out.keep hbb,bkeep2 HB.out hbb⟩
 clear HX HLR HV HR HB;obtain ⟨hx,hn,hv,hr,hb0⟩:=h0;have HX:=hD hx;have HN:=hD hn;have HV:=hD hv;have HR:=hD hr;have HB:=hD hb0;clear hx hn hv hr hb0
 cases h1:rng p.n.ww 0 30
 ·clear hb;have hr:=nodeAt HN.out;obtain ⟨x0,x1,x2,x4,x5,x6,x7,x8,x20,x21⟩:=xs0_1_2_4_5_6_7_8_20_21 HN.out;have hrp:=node_pk hr;have hrl:=node_pl hr;have hrc:=node_ce hr;simp only [Nat.zero_add] at hrp hrl hrc;have HRP:=hD hrp;have HRL:=hD hrl;have HRC:=hD hrc;clear hr hrp hrl hrc
  go_wp2_with (first|(refine ldPackH HRP rfl rfl rfl ?_)|(refine ldPlaceH HRL rfl rfl rfl ?_)|(refine ldCellH HRC rfl rfl rfl ?_))
  with_reducible refine (inRange_w _ 0 30 false _ h1).mono ?_
  rintro e wq ⟨rfl,rfl⟩
  go_wp2_with (first|(refine ldPackH HRP rfl rfl rfl ?_)|(refine ldPlaceH HRL rfl rfl rfl ?_)|(refine ldCellH HRC rfl rfl rfl ?_))
  go_ret;exact ⟨rfl,HB.out⟩
 cases h2:rng p.n.hh 0 30
 ·clear hb;have hr:=nodeAt HN.out;obtain ⟨x0,x1,x2,x4,x5,x6,x7,x8,x20,x21⟩:=xs0_1_2_4_5_6_7_8_20_21 HN.out;have hrp:=node_pk hr;have hrl:=node_pl hr;have hrc:=node_ce hr;simp only [Nat.zero_add] at hrp hrl hrc;have HRP:=hD hrp;have HRL:=hD hrl;have HRC:=hD hrc;clear hr hrp hrl hrc
  go_wp2_with (first|(refine ldPackH HRP rfl rfl rfl ?_)|(refine ldPlaceH HRL rfl rfl rfl ?_)|(refine ldCellH HRC rfl rfl rfl ?_))
  with_reducible refine (inRange_w _ 0 30 true _ h1).mono ?_
  rintro e wq ⟨rfl,rfl⟩
  go_wp2_with (first|(refine ldPackH HRP rfl rfl rfl ?_)|(refine ldPlaceH HRL rfl rfl rfl ?_)|(refine ldCellH HRC rfl rfl rfl ?_))
  with_reducible refine (inRange_w _ 0 30 false _ h2).mono ?_
  rintro e wq ⟨rfl,rfl⟩
  go_wp2_with (first|(refine ldPackH HRP rfl rfl rfl ?_)|(refine ldPlaceH HRL rfl rfl rfl ?_)|(refine ldCellH HRC rfl rfl rfl ?_))
  go_ret;exact ⟨rfl,HB.out⟩
 cases h3:rng p.n.ki 0 2
 ·clear hb;have hr:=nodeAt HN.out;obtain ⟨x0,x1,x2,x4,x5,x6,x7,x8,x20,x21⟩:=xs0_1_2_4_5_6_7_8_20_21 HN.out;have hrp:=node_pk hr;have hrl:=node_pl hr;have hrc:=node_ce hr;simp only [Nat.zero_add] at hrp hrl hrc;have HRP:=hD hrp;have HRL:=hD hrl;have HRC:=hD hrc;clear hr hrp hrl hrc
  go_wp2_with (first|(refine ldPackH HRP rfl rfl rfl ?_)|(refine ldPlaceH HRL rfl rfl rfl ?_)|(refine ldCellH HRC rfl rfl rfl ?_))
  with_reducible refine (inRange_w _ 0 30 true _ h1).mono ?_
  rintro e wq ⟨rfl,rfl⟩
  go_wp2_with (first|(refine ldPackH HRP rfl rfl rfl ?_)|(refine ldPlaceH HRL rfl rfl rfl ?_)|(refine ldCellH HRC rfl rfl rfl ?_))
  with_reducible refine (inRange_w _ 0 30 true _ h2).mono ?_
  rintro e wq ⟨rfl,rfl⟩
  go_wp2_with (first|(refine ldPackH HRP rfl rfl rfl ?_)|(refine ldPlaceH HRL rfl rfl rfl ?_)|(refine ldCellH HRC rfl rfl rfl ?_))
  with_reducible refine (inRange_w _ 0 2 false _ h3).mono ?_
  rintro e wq ⟨rfl,rfl⟩
  go_wp2_with (first|(refine ldPackH HRP rfl rfl rfl ?_)|(refine ldPlaceH HRL rfl rfl rfl ?_)|(refine ldCellH HRC rfl rfl rfl ?_))
  go_ret;exact ⟨rfl,HB.out⟩
 cases h4:p.n.pk.ok
 ·clear hb;have hr:=nodeAt HN.out;obtain ⟨x0,x1,x2,x4,x5,x6,x7,x8,x20,x21⟩:=xs0_1_2_4_5_6_7_8_20_21 HN.out;have hrp:=node_pk hr;have hrl:=node_pl hr;have hrc:=node_ce hr;simp only [Nat.zero_add] at hrp hrl hrc;have HRP:=hD hrp;have HRL:=hD hrl;have HRC:=hD hrc;clear hr hrp hrl hrc
  go_wp2_with (first|(refine ldPackH HRP rfl rfl rfl ?_)|(refine ldPlaceH HRL rfl rfl rfl ?_)|(refine ldCellH HRC rfl rfl rfl ?_))
  with_reducible refine (inRange_w _ 0 30 true _ h1).mono ?_
  rintro e wq ⟨rfl,rfl⟩
  go_wp2_with (first|(refine ldPackH HRP rfl rfl rfl ?_)|(refine ldPlaceH HRL rfl rfl rfl ?_)|(refine ldCellH HRC rfl rfl rfl ?_))
  with_reducible refine (inRange_w _ 0 30 true _ h2).mono ?_
  rintro e wq ⟨rfl,rfl⟩
  go_wp2_with (first|(refine ldPackH HRP rfl rfl rfl ?_)|(refine ldPlaceH HRL rfl rfl rfl ?_)|(refine ldCellH HRC rfl rfl rfl ?_))
  with_reducible refine (inRange_w _ 0 2 true _ h3).mono ?_
  rintro e wq ⟨rfl,rfl⟩
  go_wp2_with (first|(refine ldPackH HRP rfl rfl rfl ?_)|(refine ldPlaceH HRL rfl rfl rfl ?_)|(refine ldCellH HRC rfl rfl rfl ?_))
  with_reducible refine (svp_v p.n.pk false h4 _).mono ?_
  rintro e v1 ⟨rfl,hb1⟩;clear x0 x1 x2 x4 x5 x6 x7 x8 x20 x21 HRP HRL HRC;replace HX:=hbk hb1 HX;replace HN:=hbk hb1 HN;replace HV:=hD (HV.out.keep hb1);replace HR:=hD (HR.out.keep hb1);replace HB:=hD (bkeep2 HB.out hb1);clear hb1;have hr:=nodeAt HN.out;obtain ⟨x0,x1,x2,x4,x5,x6,x7,x8,x20,x21⟩:=xs0_1_2_4_5_6_7_8_20_21 HN.out;have hrp:=node_pk hr;have hrl:=node_pl hr;have hrc:=node_ce hr
  simp only [Nat.zero_add] at hrp hrl hrc;have HRP:=hD hrp;have HRL:=hD hrl;have HRC:=hD hrc;clear hr hrp hrl hrc
  go_wp2_with (first|(refine ldPackH HRP rfl rfl rfl ?_)|(refine ldPlaceH HRL rfl rfl rfl ?_)|(refine ldCellH HRC rfl rfl rfl ?_))
  go_ret;exact ⟨rfl,HB.out⟩
 cases h5:decide (p.n.pk.w=0)
 ·clear hb;have e5:=neb_f h5;have hr:=nodeAt HN.out;obtain ⟨x0,x1,x2,x4,x5,x6,x7,x8,x20,x21⟩:=xs0_1_2_4_5_6_7_8_20_21 HN.out;have hrp:=node_pk hr;have hrl:=node_pl hr;have hrc:=node_ce hr;simp only [Nat.zero_add] at hrp hrl hrc;have HRP:=hD hrp;have HRL:=hD hrl;have HRC:=hD hrc;clear hr hrp hrl hrc
  go_wp2_with (first|(refine ldPackH HRP rfl rfl rfl ?_)|(refine ldPlaceH HRL rfl rfl rfl ?_)|(refine ldCellH HRC rfl rfl rfl ?_))
  with_reducible refine (inRange_w _ 0 30 true _ h1).mono ?_
  rintro e wq ⟨rfl,rfl⟩
  go_wp2_with (first|(refine ldPackH HRP rfl rfl rfl ?_)|(refine ldPlaceH HRL rfl rfl rfl ?_)|(refine ldCellH HRC rfl rfl rfl ?_))
  with_reducible refine (inRange_w _ 0 30 true _ h2).mono ?_
  rintro e wq ⟨rfl,rfl⟩
  go_wp2_with (first|(refine ldPackH HRP rfl rfl rfl ?_)|(refine ldPlaceH HRL rfl rfl rfl ?_)|(refine ldCellH HRC rfl rfl rfl ?_))
  with_reducible refine (inRange_w _ 0 2 true _ h3).mono ?_
  rintro e wq ⟨rfl,rfl⟩
  go_wp2_with (first|(refine ldPackH HRP rfl rfl rfl ?_)|(refine ldPlaceH HRL rfl rfl rfl ?_)|(refine ldCellH HRC rfl rfl rfl ?_))
  with_reducible refine (svp_v p.n.pk true h4 _).mono ?_
  rintro e v1 ⟨rfl,hb1⟩;clear x0 x1 x2 x4 x5 x6 x7 x8 x20 x21 HRP HRL HRC;replace HX:=hbk hb1 HX;replace HN:=hbk hb1 HN;replace HV:=hD (HV.out.keep hb1);replace HR:=hD (HR.out.keep hb1);replace HB:=hD (bkeep2 HB.out hb1);clear hb1;have hr:=nodeAt HN.out;obtain ⟨x0,x1,x2,x4,x5,x6,x7,x8,x20,x21⟩:=xs0_1_2_4_5_6_7_8_20_21 HN.out;have hrp:=node_pk hr;have hrl:=node_pl hr;have hrc:=node_ce hr
  simp only [Nat.zero_add] at hrp hrl hrc;have HRP:=hD hrp;have HRL:=hD hrl;have HRC:=hD hrc;clear hr hrp hrl hrc
  go_wp2_with (first|(refine ldPackH HRP rfl rfl rfl ?_)|(refine ldPlaceH HRL rfl rfl rfl ?_)|(refine ldCellH HRC rfl rfl rfl ?_))
  go_ret;exact ⟨rfl,HB.out⟩
 have e5:=neb_t h5
 cases h6:decide (p.n.pk.h=0)
 ·clear hb;have e6:=neb_f h6;have hr:=nodeAt HN.out;obtain ⟨x0,x1,x2,x4,x5,x6,x7,x8,x20,x21⟩:=xs0_1_2_4_5_6_7_8_20_21 HN.out;have hrp:=node_pk hr;have hrl:=node_pl hr;have hrc:=node_ce hr;simp only [Nat.zero_add] at hrp hrl hrc;have HRP:=hD hrp;have HRL:=hD hrl;have HRC:=hD hrc;clear hr hrp hrl hrc
  go_wp2_with (first|(refine ldPackH HRP rfl rfl rfl ?_)|(refine ldPlaceH HRL rfl rfl rfl ?_)|(refine ldCellH HRC rfl rfl rfl ?_))
  with_reducible refine (inRange_w _ 0 30 true _ h1).mono ?_
  rintro e wq ⟨rfl,rfl⟩
  go_wp2_with (first|(refine ldPackH HRP rfl rfl rfl ?_)|(refine ldPlaceH HRL rfl rfl rfl ?_)|(refine ldCellH HRC rfl rfl rfl ?_))
  with_reducible refine (inRange_w _ 0 30 true _ h2).mono ?_
  rintro e wq ⟨rfl,rfl⟩
  go_wp2_with (first|(refine ldPackH HRP rfl rfl rfl ?_)|(refine ldPlaceH HRL rfl rfl rfl ?_)|(refine ldCellH HRC rfl rfl rfl ?_))
  with_reducible refine (inRange_w _ 0 2 true _ h3).mono ?_
  rintro e wq ⟨rfl,rfl⟩
  go_wp2_with (first|(refine ldPackH HRP rfl rfl rfl ?_)|(refine ldPlaceH HRL rfl rfl rfl ?_)|(refine ldCellH HRC rfl rfl rfl ?_))
  with_reducible refine (svp_v p.n.pk true h4 _).mono ?_
  rintro e v1 ⟨rfl,hb1⟩;clear x0 x1 x2 x4 x5 x6 x7 x8 x20 x21 HRP HRL HRC;replace HX:=hbk hb1 HX;replace HN:=hbk hb1 HN;replace HV:=hD (HV.out.keep hb1);replace HR:=hD (HR.out.keep hb1);replace HB:=hD (bkeep2 HB.out hb1);clear hb1;have hr:=nodeAt HN.out;obtain ⟨x0,x1,x2,x4,x5,x6,x7,x8,x20,x21⟩:=xs0_1_2_4_5_6_7_8_20_21 HN.out;have hrp:=node_pk hr;have hrl:=node_pl hr;have hrc:=node_ce hr
  simp only [Nat.zero_add] at hrp hrl hrc;have HRP:=hD hrp;have HRL:=hD hrl;have HRC:=hD hrc;clear hr hrp hrl hrc
  go_wp2_with (first|(refine ldPackH HRP rfl rfl rfl ?_)|(refine ldPlaceH HRL rfl rfl rfl ?_)|(refine ldCellH HRC rfl rfl rfl ?_))
  go_ret;exact ⟨rfl,HB.out⟩
 have e6:=neb_t h6
 cases h7:plB p.n.pl
 ·clear hb;have hr:=nodeAt HN.out;obtain ⟨x0,x1,x2,x4,x5,x6,x7,x8,x20,x21⟩:=xs0_1_2_4_5_6_7_8_20_21 HN.out;have hrp:=node_pk hr;have hrl:=node_pl hr;have hrc:=node_ce hr;simp only [Nat.zero_add] at hrp hrl hrc;have HRP:=hD hrp;have HRL:=hD hrl;have HRC:=hD hrc;clear hr hrp hrl hrc
  go_wp2_with (first|(refine ldPackH HRP rfl rfl rfl ?_)|(refine ldPlaceH HRL rfl rfl rfl ?_)|(refine ldCellH HRC rfl rfl rfl ?_))
  with_reducible refine (inRange_w _ 0 30 true _ h1).mono ?_
  rintro e wq ⟨rfl,rfl⟩
  go_wp2_with (first|(refine ldPackH HRP rfl rfl rfl ?_)|(refine ldPlaceH HRL rfl rfl rfl ?_)|(refine ldCellH HRC rfl rfl rfl ?_))
  with_reducible refine (inRange_w _ 0 30 true _ h2).mono ?_
  rintro e wq ⟨rfl,rfl⟩
  go_wp2_with (first|(refine ldPackH HRP rfl rfl rfl ?_)|(refine ldPlaceH HRL rfl rfl rfl ?_)|(refine ldCellH HRC rfl rfl rfl ?_))
  with_reducible refine (inRange_w _ 0 2 true _ h3).mono ?_
  rintro e wq ⟨rfl,rfl⟩
  go_wp2_with (first|(refine ldPackH HRP rfl rfl rfl ?_)|(refine ldPlaceH HRL rfl rfl rfl ?_)|(refine ldCellH HRC rfl rfl rfl ?_))
  with_reducible refine (svp_v p.n.pk true h4 _).mono ?_
  rintro e v1 ⟨rfl,hb1⟩;clear x0 x1 x2 x4 x5 x6 x7 x8 x20 x21 HRP HRL HRC;replace HX:=hbk hb1 HX;replace HN:=hbk hb1 HN;replace HV:=hD (HV.out.keep hb1);replace HR:=hD (HR.out.keep hb1);replace HB:=hD (bkeep2 HB.out hb1);clear hb1;have hr:=nodeAt HN.out;obtain ⟨x0,x1,x2,x4,x5,x6,x7,x8,x20,x21⟩:=xs0_1_2_4_5_6_7_8_20_21 HN.out;have hrp:=node_pk hr;have hrl:=node_pl hr;have hrc:=node_ce hr
  simp only [Nat.zero_add] at hrp hrl hrc;have HRP:=hD hrp;have HRL:=hD hrl;have HRC:=hD hrc;clear hr hrp hrl hrc
  go_wp2_with (first|(refine ldPackH HRP rfl rfl rfl ?_)|(refine ldPlaceH HRL rfl rfl rfl ?_)|(refine ldCellH HRC rfl rfl rfl ?_))
  with_reducible refine (svalidPlace_t p.n.pl false _ h7).mono ?_
  rintro e v2 ⟨rfl,hb1⟩;clear x0 x1 x2 x4 x5 x6 x7 x8 x20 x21 HRP HRL HRC;replace HX:=hbk hb1 HX;replace HN:=hbk hb1 HN;replace HV:=hD (HV.out.keep hb1);replace HR:=hD (HR.out.keep hb1);replace HB:=hD (bkeep2 HB.out hb1);clear hb1;have hr:=nodeAt HN.out;obtain ⟨x0,x1,x2,x4,x5,x6,x7,x8,x20,x21⟩:=xs0_1_2_4_5_6_7_8_20_21 HN.out;have hrp:=node_pk hr;have hrl:=node_pl hr;have hrc:=node_ce hr
  simp only [Nat.zero_add] at hrp hrl hrc;have HRP:=hD hrp;have HRL:=hD hrl;have HRC:=hD hrc;clear hr hrp hrl hrc
  go_wp2_with (first|(refine ldPackH HRP rfl rfl rfl ?_)|(refine ldPlaceH HRL rfl rfl rfl ?_)|(refine ldCellH HRC rfl rfl rfl ?_))
  go_ret;exact ⟨rfl,HB.out⟩
 cases h8:decide (p.n.ce.cw=0)
 ·clear hb;have e8:=neb_f h8;have hr:=nodeAt HN.out;obtain ⟨x0,x1,x2,x4,x5,x6,x7,x8,x20,x21⟩:=xs0_1_2_4_5_6_7_8_20_21 HN.out;have hrp:=node_pk hr;have hrl:=node_pl hr;have hrc:=node_ce hr;simp only [Nat.zero_add] at hrp hrl hrc;have HRP:=hD hrp;have HRL:=hD hrl;have HRC:=hD hrc;clear hr hrp hrl hrc
  go_wp2_with (first|(refine ldPackH HRP rfl rfl rfl ?_)|(refine ldPlaceH HRL rfl rfl rfl ?_)|(refine ldCellH HRC rfl rfl rfl ?_))
  with_reducible refine (inRange_w _ 0 30 true _ h1).mono ?_
  rintro e wq ⟨rfl,rfl⟩
  go_wp2_with (first|(refine ldPackH HRP rfl rfl rfl ?_)|(refine ldPlaceH HRL rfl rfl rfl ?_)|(refine ldCellH HRC rfl rfl rfl ?_))
  with_reducible refine (inRange_w _ 0 30 true _ h2).mono ?_
  rintro e wq ⟨rfl,rfl⟩
  go_wp2_with (first|(refine ldPackH HRP rfl rfl rfl ?_)|(refine ldPlaceH HRL rfl rfl rfl ?_)|(refine ldCellH HRC rfl rfl rfl ?_))
  with_reducible refine (inRange_w _ 0 2 true _ h3).mono ?_
  rintro e wq ⟨rfl,rfl⟩
  go_wp2_with (first|(refine ldPackH HRP rfl rfl rfl ?_)|(refine ldPlaceH HRL rfl rfl rfl ?_)|(refine ldCellH HRC rfl rfl rfl ?_))
  with_reducible refine (svp_v p.n.pk true h4 _).mono ?_
  rintro e v1 ⟨rfl,hb1⟩;clear x0 x1 x2 x4 x5 x6 x7 x8 x20 x21 HRP HRL HRC;replace HX:=hbk hb1 HX;replace HN:=hbk hb1 HN;replace HV:=hD (HV.out.keep hb1);replace HR:=hD (HR.out.keep hb1);replace HB:=hD (bkeep2 HB.out hb1);clear hb1;have hr:=nodeAt HN.out;obtain ⟨x0,x1,x2,x4,x5,x6,x7,x8,x20,x21⟩:=xs0_1_2_4_5_6_7_8_20_21 HN.out;have hrp:=node_pk hr;have hrl:=node_pl hr;have hrc:=node_ce hr
  simp only [Nat.zero_add] at hrp hrl hrc;have HRP:=hD hrp;have HRL:=hD hrl;have HRC:=hD hrc;clear hr hrp hrl hrc
  go_wp2_with (first|(refine ldPackH HRP rfl rfl rfl ?_)|(refine ldPlaceH HRL rfl rfl rfl ?_)|(refine ldCellH HRC rfl rfl rfl ?_))
  with_reducible refine (svalidPlace_t p.n.pl true _ h7).mono ?_
  rintro e v2 ⟨rfl,hb1⟩;clear x0 x1 x2 x4 x5 x6 x7 x8 x20 x21 HRP HRL HRC;replace HX:=hbk hb1 HX;replace HN:=hbk hb1 HN;replace HV:=hD (HV.out.keep hb1);replace HR:=hD (HR.out.keep hb1);replace HB:=hD (bkeep2 HB.out hb1);clear hb1;have hr:=nodeAt HN.out;obtain ⟨x0,x1,x2,x4,x5,x6,x7,x8,x20,x21⟩:=xs0_1_2_4_5_6_7_8_20_21 HN.out;have hrp:=node_pk hr;have hrl:=node_pl hr;have hrc:=node_ce hr
  simp only [Nat.zero_add] at hrp hrl hrc;have HRP:=hD hrp;have HRL:=hD hrl;have HRC:=hD hrc;clear hr hrp hrl hrc
  go_wp2_with (first|(refine ldPackH HRP rfl rfl rfl ?_)|(refine ldPlaceH HRL rfl rfl rfl ?_)|(refine ldCellH HRC rfl rfl rfl ?_))
  go_ret;exact ⟨rfl,HB.out⟩
 have e8:=neb_t h8
 have h9:decide (p.n.ce.ch=0)=false:=by have:=hb;simp only [spB,h1,h2,h3,h4,h5,h6,h7,h8,Bool.true_and] at this;exact this
 clear hb;have e9:=neb_f h9;have hr:=nodeAt HN.out;obtain ⟨x0,x1,x2,x4,x5,x6,x7,x8,x20,x21⟩:=xs0_1_2_4_5_6_7_8_20_21 HN.out;have hrp:=node_pk hr;have hrl:=node_pl hr;have hrc:=node_ce hr;simp only [Nat.zero_add] at hrp hrl hrc;have HRP:=hD hrp;have HRL:=hD hrl;have HRC:=hD hrc;clear hr hrp hrl hrc
 go_wp2_with (first|(refine ldPackH HRP rfl rfl rfl ?_)|(refine ldPlaceH HRL rfl rfl rfl ?_)|(refine ldCellH HRC rfl rfl rfl ?_))
 with_reducible refine (inRange_w _ 0 30 true _ h1).mono ?_
 rintro e wq ⟨rfl,rfl⟩
 go_wp2_with (first|(refine ldPackH HRP rfl rfl rfl ?_)|(refine ldPlaceH HRL rfl rfl rfl ?_)|(refine ldCellH HRC rfl rfl rfl ?_))
 with_reducible refine (inRange_w _ 0 30 true _ h2).mono ?_
 rintro e wq ⟨rfl,rfl⟩
 go_wp2_with (first|(refine ldPackH HRP rfl rfl rfl ?_)|(refine ldPlaceH HRL rfl rfl rfl ?_)|(refine ldCellH HRC rfl rfl rfl ?_))
 with_reducible refine (inRange_w _ 0 2 true _ h3).mono ?_
 rintro e wq ⟨rfl,rfl⟩
 go_wp2_with (first|(refine ldPackH HRP rfl rfl rfl ?_)|(refine ldPlaceH HRL rfl rfl rfl ?_)|(refine ldCellH HRC rfl rfl rfl ?_))
 with_reducible refine (svp_v p.n.pk true h4 _).mono ?_
 rintro e v1 ⟨rfl,hb1⟩;clear x0 x1 x2 x4 x5 x6 x7 x8 x20 x21 HRP HRL HRC;replace HX:=hbk hb1 HX;replace HN:=hbk hb1 HN;replace HV:=hD (HV.out.keep hb1);replace HR:=hD (HR.out.keep hb1);replace HB:=hD (bkeep2 HB.out hb1);clear hb1;have hr:=nodeAt HN.out;obtain ⟨x0,x1,x2,x4,x5,x6,x7,x8,x20,x21⟩:=xs0_1_2_4_5_6_7_8_20_21 HN.out;have hrp:=node_pk hr;have hrl:=node_pl hr;have hrc:=node_ce hr
 simp only [Nat.zero_add] at hrp hrl hrc;have HRP:=hD hrp;have HRL:=hD hrl;have HRC:=hD hrc;clear hr hrp hrl hrc
 go_wp2_with (first|(refine ldPackH HRP rfl rfl rfl ?_)|(refine ldPlaceH HRL rfl rfl rfl ?_)|(refine ldCellH HRC rfl rfl rfl ?_))
 with_reducible refine (svalidPlace_t p.n.pl true _ h7).mono ?_
 rintro e v2 ⟨rfl,hb1⟩;clear x0 x1 x2 x4 x5 x6 x7 x8 x20 x21 HRP HRL HRC;replace HX:=hbk hb1 HX;replace HN:=hbk hb1 HN;replace HV:=hD (HV.out.keep hb1);replace HR:=hD (HR.out.keep hb1);replace HB:=hD (bkeep2 HB.out hb1);clear hb1;have hr:=nodeAt HN.out;obtain ⟨x0,x1,x2,x4,x5,x6,x7,x8,x20,x21⟩:=xs0_1_2_4_5_6_7_8_20_21 HN.out;have hrp:=node_pk hr;have hrl:=node_pl hr;have hrc:=node_ce hr
 simp only [Nat.zero_add] at hrp hrl hrc;have HRP:=hD hrp;have HRL:=hD hrl;have HRC:=hD hrc;clear hr hrp hrl hrc
 go_wp2_with (first|(refine ldPackH HRP rfl rfl rfl ?_)|(refine ldPlaceH HRL rfl rfl rfl ?_)|(refine ldCellH HRC rfl rfl rfl ?_))
 go_ret;exact ⟨rfl,HB.out⟩
theorem svalidNode_yes (A:Option Addr) (c:Nat) (R:List Nr) (i:Nat) (p:Nr) (b:Bool) (w:World) (h:NrV w A R) (hr:RdR w R) (hp:R[i]?=some p) (hL:R.length≤1048576) (hm:∀ p∈R,p.n.cs.length≤1048576∧p.n.rs.length≤1048576) (h0:spB p.n=true) (hb:(ownB p.n&&(upB i p.n&&clB (R.map Nr.n) i p.n))=b) :
  Calls Tryz.prog 70 #[.agg #[.slice A R.length c],.int .i64 i] w fun e w'=>e=.returned (.bool b)∧Below w.heap.size w w':=by
 have hi:i<R.length:=(List.getElem?_eq_some_iff.1 hp).1
 have hii:(i:Int)<(R.length:Int):=by omega
 have hmp:=hm p (List.mem_of_getElem? hp);obtain ⟨mp1,mp2⟩:=hmp;obtain ⟨bl,off,rfl,hbl,hc⟩:=h.cells (by omega);have hB0:Below w.heap.size w (w.alloc (.cells #[.slice (some ⟨bl,off,none⟩) R.length c] 30 (0,0))):=balloc (Below.refl _ _);have HX:=hD (newS w (.cells #[.slice (some ⟨bl,off,none⟩) R.length c] 30 (0,0)));have HLR:=hD (rangeB (hc i p hp) (hB0.block bl hbl));have HV:=hD (h.keep hB0)
 have HR:=hD (hr.keep hB0);have HB:=hD hB0;have HM:=hD hm;have HG:=hD hp;clear hc h hr hm hp hB0
 go_enter Tryz.func70,Tryz.ntmps70
 go_upto_region 2 with (first|(refine ldN _ p bl (off+i*34) rfl rfl rfl HLR.out ?_)|(refine stN (.tmp 5) (.tmp 11) p (w.heap.size+1) 0 rfl rfl rfl rfl (newS1T _ _ _) (by show (0+34:Nat)≤34;omega) ?_))
 refine wp_genGG (fun W=>W.heap[w.heap.size]?=some (.cells #[.slice (some ⟨bl,off,none⟩) R.length c] 30 (0,0))∧W.heap[w.heap.size+1]?=some (.cells (valsNr p).toArray 90 (0,0))∧NrV W (some ⟨bl,off,none⟩) R∧RdR W R∧Below w.heap.size w W) ?hw (fun W h0=>?_)
 case hw =>
  have hbb:Below (w.alloc (.cells #[.slice (some ⟨bl,off,none⟩) R.length c] 30 (0,0))).heap.size (w.alloc (.cells #[.slice (some ⟨bl,off,none⟩) R.length c] 30 (0,0))) (((w.alloc (.cells #[.slice (some ⟨bl,off,none⟩) R.length c] 30 (0,0))).alloc (.cells #[.int .i64 0,.int .i64 0,.int .i64 0,.bool false,.int .i64 0,.slice none 0 0,.slice none 0 0,.int .i64 0,.int .i64 0,.int .i64 0,.bool false,.bool false,.bool false,.int .i64 0,.int .i64 0,.int .i64 0,.int .i64 0,.int .i64 0,.int .i64 0,.int .i64 0,.int .i64 0,.int .i64 0,.int .i64 0,.int .i64 0,.int .i64 0,.int .i64 0,.int .i64 0,.int .i64 0,.int .i64 0,.int .i64 0,.int .i64 0,.int .i64 0,.int .i64 0,.int .i64 0] 90)).setCells (w.heap.size+1) 0 (valsNr p)):=below_setCells (by simp) _ _ _ (balloc (Below.refl _ _))
  exact ⟨(hbb.block _ (ltS HX.out)).trans HX.out,by rw [heap_setCells (valsNr p) 0 _ _ (newS1T w _ _),wrAt_all (by rfl)],HV.out.keep hbb,HR.out.keep hbb,bkeep2 HB.out hbb⟩
 clear HX HLR HV HR HB;obtain ⟨hx,hn,hv,hr,hb0⟩:=h0;have HX:=hD hx;have HN:=hD hn;have HV:=hD hv;have HR:=hD hr;have HB:=hD hb0;clear hx hn hv hr hb0;simp only [spB,Bool.and_eq_true] at h0;obtain ⟨h1,h2,h3,h4,h5,h6,h7,h8,h9⟩:=h0;have e5:=neb_t h5;have e6:=neb_t h6;have e8:=neb_t h8;have e9:=neb_t h9;have HBB:=hD hb;clear hb;have hr:=nodeAt HN.out
 obtain ⟨x0,x1,x2,x4,x5,x6,x7,x8,x20,x21⟩:=xs0_1_2_4_5_6_7_8_20_21 HN.out;have hrp:=node_pk hr;have hrl:=node_pl hr;have hrc:=node_ce hr;simp only [Nat.zero_add] at hrp hrl hrc;have HRP:=hD hrp;have HRL:=hD hrl;have HRC:=hD hrc;clear hr hrp hrl hrc
 go_wp2_with (first|(refine ldPackH HRP rfl rfl rfl ?_)|(refine ldPlaceH HRL rfl rfl rfl ?_)|(refine ldCellH HRC rfl rfl rfl ?_))
 with_reducible refine (inRange_w _ 0 30 true _ h1).mono ?_
 rintro e wq ⟨rfl,rfl⟩
 go_wp2_with (first|(refine ldPackH HRP rfl rfl rfl ?_)|(refine ldPlaceH HRL rfl rfl rfl ?_)|(refine ldCellH HRC rfl rfl rfl ?_))
 with_reducible refine (inRange_w _ 0 30 true _ h2).mono ?_
 rintro e wq ⟨rfl,rfl⟩
 go_wp2_with (first|(refine ldPackH HRP rfl rfl rfl ?_)|(refine ldPlaceH HRL rfl rfl rfl ?_)|(refine ldCellH HRC rfl rfl rfl ?_))
 with_reducible refine (inRange_w _ 0 2 true _ h3).mono ?_
 rintro e wq ⟨rfl,rfl⟩
 go_wp2_with (first|(refine ldPackH HRP rfl rfl rfl ?_)|(refine ldPlaceH HRL rfl rfl rfl ?_)|(refine ldCellH HRC rfl rfl rfl ?_))
 with_reducible refine (svp_v p.n.pk true h4 _).mono ?_
 rintro e v1 ⟨rfl,hb1⟩;clear x0 x1 x2 x4 x5 x6 x7 x8 x20 x21 HRP HRL HRC;replace HX:=hbk hb1 HX;replace HN:=hbk hb1 HN;replace HV:=hD (HV.out.keep hb1);replace HR:=hD (HR.out.keep hb1);replace HB:=hD (bkeep2 HB.out hb1);clear hb1;have hr:=nodeAt HN.out;obtain ⟨x0,x1,x2,x4,x5,x6,x7,x8,x20,x21⟩:=xs0_1_2_4_5_6_7_8_20_21 HN.out;have hrp:=node_pk hr;have hrl:=node_pl hr;have hrc:=node_ce hr
 simp only [Nat.zero_add] at hrp hrl hrc;have HRP:=hD hrp;have HRL:=hD hrl;have HRC:=hD hrc;clear hr hrp hrl hrc
 go_wp2_with (first|(refine ldPackH HRP rfl rfl rfl ?_)|(refine ldPlaceH HRL rfl rfl rfl ?_)|(refine ldCellH HRC rfl rfl rfl ?_))
 with_reducible refine (svalidPlace_t p.n.pl true _ h7).mono ?_
 rintro e v2 ⟨rfl,hb1⟩;clear x0 x1 x2 x4 x5 x6 x7 x8 x20 x21 HRP HRL HRC;replace HX:=hbk hb1 HX;replace HN:=hbk hb1 HN;replace HV:=hD (HV.out.keep hb1);replace HR:=hD (HR.out.keep hb1);replace HB:=hD (bkeep2 HB.out hb1);clear hb1;have hr:=nodeAt HN.out;obtain ⟨x0,x1,x2,x4,x5,x6,x7,x8,x20,x21⟩:=xs0_1_2_4_5_6_7_8_20_21 HN.out;have hrp:=node_pk hr;have hrl:=node_pl hr;have hrc:=node_ce hr
 simp only [Nat.zero_add] at hrp hrl hrc;have HRP:=hD hrp;have HRL:=hD hrl;have HRC:=hD hrc;clear hr hrp hrl hrc;clear h1 h2 h3 h4 h5 h6 h7 h8 h9;unfold ownB at HBB
 go_upto_region 4 with ((first|(refine ldPackH HRP rfl rfl rfl ?_)|(refine ldPlaceH HRL rfl rfl rfl ?_)|(refine ldCellH HRC rfl rfl rfl ?_)))
 by_cases hk:p.n.ki=1
 ·rw [if_pos hk] at HBB;rw [hk] at x4;have HK:=hD hk;clear hk
  cases g1:linesB p.n.cs
  ·obtain rfl:false=b:=by rw [<- HBB.out,g1];rfl
   have HPC:=hD (HR.out p (List.mem_of_getElem? HG.out))
   go_wp2_with fail
   with_reducible refine (svalidLines_v p.ca p.cc p.n.cs false _ HPC.out.c mp1 g1).mono ?_
   rintro e u1 ⟨rfl,hb1⟩;clear x0 x1 x2 x4 x5 x6 x7 x8 x20 x21 HRP HRL HRC;replace HB:=hD (bkeep2 HB.out hb1);clear hb1;go_wp2;go_ret;exact ⟨rfl,HB.out⟩
  ·cases g2:linesB p.n.rs
   ·obtain rfl:false=b:=by rw [<- HBB.out,g1,g2];rfl
    have HPC:=hD (HR.out p (List.mem_of_getElem? HG.out))
    go_wp2_with fail
    with_reducible refine (svalidLines_v p.ca p.cc p.n.cs true _ HPC.out.c mp1 g1).mono ?_
    rintro e u1 ⟨rfl,hb1⟩;clear x0 x1 x2 x4 x5 x6 x7 x8 x20 x21 HRP HRL HRC;replace HX:=hbk hb1 HX;replace HN:=hbk hb1 HN;replace HV:=hD (HV.out.keep hb1);replace HR:=hD (HR.out.keep hb1);replace HB:=hD (bkeep2 HB.out hb1);clear hb1;have hr:=nodeAt HN.out;obtain ⟨x0,x1,x2,x4,x5,x6,x7,x8,x20,x21⟩:=xs0_1_2_4_5_6_7_8_20_21 HN.out;have hrp:=node_pk hr;have hrl:=node_pl hr;have hrc:=node_ce hr
    simp only [Nat.zero_add] at hrp hrl hrc;have HRP:=hD hrp;have HRL:=hD hrl;have HRC:=hD hrc;clear hr hrp hrl hrc;rw [HK.out] at x4;have HPC:=hD (HR.out p (List.mem_of_getElem? HG.out))
    go_wp2_with fail
    with_reducible refine (svalidLines_v p.ra p.rc p.n.rs false _ HPC.out.r mp2 g2).mono ?_
    rintro e u2 ⟨rfl,hb1⟩;clear x0 x1 x2 x4 x5 x6 x7 x8 x20 x21 HRP HRL HRC;replace HX:=hbk hb1 HX;replace HN:=hbk hb1 HN;replace HV:=hD (HV.out.keep hb1);replace HR:=hD (HR.out.keep hb1);replace HB:=hD (bkeep2 HB.out hb1);clear hb1;have hr:=nodeAt HN.out;obtain ⟨x0,x1,x2,x4,x5,x6,x7,x8,x20,x21⟩:=xs0_1_2_4_5_6_7_8_20_21 HN.out;have hrp:=node_pk hr;have hrl:=node_pl hr;have hrc:=node_ce hr
    simp only [Nat.zero_add] at hrp hrl hrc;have HRP:=hD hrp;have HRL:=hD hrl;have HRC:=hD hrc;clear hr hrp hrl hrc;rw [HK.out] at x4;go_wp2;go_ret;exact ⟨rfl,HB.out⟩
   ·have hb2:(upB i p.n&&clB (R.map Nr.n) i p.n)=b:=by rw [<- HBB.out,g1,g2];rfl
    have HB2:=hD hb2;clear hb2 HBB;have HPC:=hD (HR.out p (List.mem_of_getElem? HG.out))
    go_wp2_with fail
    with_reducible refine (svalidLines_v p.ca p.cc p.n.cs true _ HPC.out.c mp1 g1).mono ?_
    rintro e u1 ⟨rfl,hb1⟩;clear x0 x1 x2 x4 x5 x6 x7 x8 x20 x21 HRP HRL HRC;replace HX:=hbk hb1 HX;replace HN:=hbk hb1 HN;replace HV:=hD (HV.out.keep hb1);replace HR:=hD (HR.out.keep hb1);replace HB:=hD (bkeep2 HB.out hb1);clear hb1;have hr:=nodeAt HN.out;obtain ⟨x0,x1,x2,x4,x5,x6,x7,x8,x20,x21⟩:=xs0_1_2_4_5_6_7_8_20_21 HN.out;have hrp:=node_pk hr;have hrl:=node_pl hr;have hrc:=node_ce hr
    simp only [Nat.zero_add] at hrp hrl hrc;have HRP:=hD hrp;have HRL:=hD hrl;have HRC:=hD hrc;clear hr hrp hrl hrc;rw [HK.out] at x4;have HPC:=hD (HR.out p (List.mem_of_getElem? HG.out))
    go_wp2_with fail
    with_reducible refine (svalidLines_v p.ra p.rc p.n.rs true _ HPC.out.r mp2 g2).mono ?_
    rintro e u2 ⟨rfl,hb1⟩;clear x0 x1 x2 x4 x5 x6 x7 x8 x20 x21 HRP HRL HRC;replace HX:=hbk hb1 HX;replace HN:=hbk hb1 HN;replace HV:=hD (HV.out.keep hb1);replace HR:=hD (HR.out.keep hb1);replace HB:=hD (bkeep2 HB.out hb1);clear hb1;have hr:=nodeAt HN.out;obtain ⟨x0,x1,x2,x4,x5,x6,x7,x8,x20,x21⟩:=xs0_1_2_4_5_6_7_8_20_21 HN.out;have hrp:=node_pk hr;have hrl:=node_pl hr;have hrc:=node_ce hr
    simp only [Nat.zero_add] at hrp hrl hrc;have HRP:=hD hrp;have HRL:=hD hrl;have HRC:=hD hrc;clear hr hrp hrl hrc;rw [HK.out] at x4
    go_upto_region 6 with (fail)
    by_cases hz:i=0
    ·subst hz
     have hbz:(p.n.pa == -1)=b:=by rw [<- HB2.out];simp only [upB,clB,if_true,Bool.and_true];rfl
     have HBZ:=hD hbz;clear hbz HB2;go_wp2;go_ret;exact ⟨ret_bool HBZ.out,HB.out⟩
    ·have z0:((i:Int) == 0)=false:=by rw [beq_eq_false_iff_ne];omega
     have z1:decide ((i:Int)=0)=false:=decide_eq_false (by omega)
     cases hu:upB i p.n
     ·obtain rfl:false=b:=by rw [<- HB2.out,hu];rfl
      have hu2:rng p.n.pa 0 ((i:Int)-1)=false:=by have:=hu;unfold upB at this;rwa [if_neg hz] at this
      go_wp2_with fail
      with_reducible refine (inRange_w p.n.pa 0 ((i:Int)-1) false _ hu2).mono ?_
      rintro e wq ⟨rfl,rfl⟩;go_wp2;go_ret;exact ⟨rfl,HB.out⟩
     ·have hu2:rng p.n.pa 0 ((i:Int)-1)=true:=by have:=hu;unfold upB at this;rwa [if_neg hz] at this
      have hb3:clB (R.map Nr.n) i p.n=b:=by rw [<- HB2.out,hu];rfl
      obtain ⟨m,hpm⟩:=Int.eq_ofNat_of_zero_le (rng_iff.1 hu2).1
      have hmi:m<i:=by have:=(rng_iff.1 hu2).2;omega
      have hml:m<R.length:=by omega
      have hmu:R[m]?=some R[m]:=List.getElem?_eq_getElem hml;unfold clB at hb3;rw [if_neg hz,hpm] at hb3;simp only [Int.toNat_natCast] at hb3;rw [List.getElem?_map,hmu] at hb3;simp only [Option.map_some] at hb3;have hmm:=HM.out _ (List.mem_of_getElem? hmu);generalize R[m]=u at *;obtain ⟨mu1,mu2⟩:=hmm;obtain ⟨bl2,off2,e9,hbl2,hcu⟩:=HV.out.cells (by omega)
      cases e9
      have HU:=hD (hcu m u hmu);have HB3:=hD hb3
      have hmr:(m:Int)<(R.length:Int):=by omega
      rw [hpm] at x0 hu2;have hx0:=cellS HX.out 0;clear hcu hmu hb3 HB2 hu hpm
      go_wp2_with fail
      with_reducible refine (inRange_w (m:Int) 0 ((i:Int)-1) true _ hu2).mono ?_
      rintro e wq ⟨rfl,rfl⟩;have hsz:w.heap.size+1<u2.heap.size:=ltS HN.out
      go_upto_region 11 with (first|(refine ldN _ u bl (off+m*34) rfl rfl rfl HU.out ?_)|(refine stN (.tmp 6) (.tmp 112) u u2.heap.size 0 rfl rfl rfl rfl (newS _ _) (by show (0+34:Nat)≤34;omega) ?_))
      refine wp_genGG (fun W=>W.heap[u2.heap.size]?=some (.cells (valsNr u).toArray 90 (0,0))∧Below u2.heap.size u2 W) ⟨new_full u rfl rfl,below_setCells (Nat.le_refl _) _ _ _ (balloc (Below.refl _ _))⟩ (fun W9 h9=>?_);obtain ⟨hn9,hb9⟩:=h9;have HN9:=hD hn9;clear x0 x1 x2 x4 x5 x6 x7 x8 x20 x21 HRP HRL HRC hx0;replace HX:=hbk hb9 HX;replace HN:=hbk hb9 HN;replace HB:=hD (bkeep2 HB.out hb9)
      clear hb9;have y4:W9.cell? ⟨u2.heap.size,4,none⟩=some (.int .i64 u.n.ki):=cellS HN9.out 4;have y5:W9.cell? ⟨u2.heap.size,5,none⟩=some (.slice u.ca u.n.cs.length u.cc):=cellS HN9.out 5;have y6:W9.cell? ⟨u2.heap.size,6,none⟩=some (.slice u.ra u.n.rs.length u.rc):=cellS HN9.out 6;clear hn9
      by_cases hq:u.n.ki=1
      ·rw [hq] at y4
       have hcb:cellB u.n.cs.length u.n.rs.length p.n.ce=b:=by rw [<- HB3.out];simp [hq]
       have HCB:=hD hcb;have hrc:=node_ce (nodeAt HN.out);simp only [Nat.zero_add] at hrc;have HRC:=hD hrc;clear hq hcb HB3 hrc
       go_wp2_with (refine ldCellH HRC rfl rfl rfl ?_)
       with_reducible refine (svalidCell_v p.n.ce u.n.cs.length u.n.rs.length 0 u.cc u.rc 0 u.ca u.ra none b _ mu1 mu2 HCB.out).mono ?_
       rintro e u9 ⟨rfl,hbu⟩;clear y4 y5 y6 HRC;replace HB:=hD (bkeep2 HB.out hbu);clear hbu;go_wp2;go_ret;exact ⟨rfl,HB.out⟩
      ·obtain rfl:true=b:=by rw [<- HB3.out];simp [hq]
       have f9:(u.n.ki == 1)=false:=by rw [beq_eq_false_iff_ne];exact hq
       have f8:(u.n.ki != 1)=true:=by simp [bne,f9]
       have f7:decide (u.n.ki=1)=false:=decide_eq_false hq;have HQ:=hD hq;clear hq;go_wp2;go_ret;exact ⟨rfl,HB.out⟩
 ·rw [if_neg hk] at HBB
  have f1:(p.n.ki == 1)=false:=by rw [beq_eq_false_iff_ne];exact hk
  have f2:(p.n.ki != 1)=true:=by simp [bne,f1]
  have f1':decide (p.n.ki=1)=false:=decide_eq_false hk;have HK:=hD hk;clear hk
  by_cases g1:p.n.cs.length=0
  ·rw [g1] at x5
   by_cases g2:p.n.rs.length=0
   ·rw [g2] at x6
    have hb2:(upB i p.n&&clB (R.map Nr.n) i p.n)=b:=by rw [<- HBB.out,decide_eq_true g1,decide_eq_true g2];rfl
    have HB2:=hD hb2;clear hb2 HBB g1 g2
    go_upto_region 6 with (fail)
    by_cases hz:i=0
    ·subst hz
     have hbz:(p.n.pa == -1)=b:=by rw [<- HB2.out];simp only [upB,clB,if_true,Bool.and_true];rfl
     have HBZ:=hD hbz;clear hbz HB2;go_wp2;go_ret;exact ⟨ret_bool HBZ.out,HB.out⟩
    ·have z0:((i:Int) == 0)=false:=by rw [beq_eq_false_iff_ne];omega
     have z1:decide ((i:Int)=0)=false:=decide_eq_false (by omega)
     cases hu:upB i p.n
     ·obtain rfl:false=b:=by rw [<- HB2.out,hu];rfl
      have hu2:rng p.n.pa 0 ((i:Int)-1)=false:=by have:=hu;unfold upB at this;rwa [if_neg hz] at this
      go_wp2_with fail
      with_reducible refine (inRange_w p.n.pa 0 ((i:Int)-1) false _ hu2).mono ?_
      rintro e wq ⟨rfl,rfl⟩;go_wp2;go_ret;exact ⟨rfl,HB.out⟩
     ·have hu2:rng p.n.pa 0 ((i:Int)-1)=true:=by have:=hu;unfold upB at this;rwa [if_neg hz] at this
      have hb3:clB (R.map Nr.n) i p.n=b:=by rw [<- HB2.out,hu];rfl
      obtain ⟨m,hpm⟩:=Int.eq_ofNat_of_zero_le (rng_iff.1 hu2).1
      have hmi:m<i:=by have:=(rng_iff.1 hu2).2;omega
      have hml:m<R.length:=by omega
      have hmu:R[m]?=some R[m]:=List.getElem?_eq_getElem hml;unfold clB at hb3;rw [if_neg hz,hpm] at hb3;simp only [Int.toNat_natCast] at hb3;rw [List.getElem?_map,hmu] at hb3;simp only [Option.map_some] at hb3;have hmm:=HM.out _ (List.mem_of_getElem? hmu);generalize R[m]=u at *;obtain ⟨mu1,mu2⟩:=hmm;obtain ⟨bl2,off2,e9,hbl2,hcu⟩:=HV.out.cells (by omega)
      cases e9
      have HU:=hD (hcu m u hmu);have HB3:=hD hb3
      have hmr:(m:Int)<(R.length:Int):=by omega
      rw [hpm] at x0 hu2;have hx0:=cellS HX.out 0;clear hcu hmu hb3 HB2 hu hpm
      go_wp2_with fail
      with_reducible refine (inRange_w (m:Int) 0 ((i:Int)-1) true _ hu2).mono ?_
      rintro e wq ⟨rfl,rfl⟩;have hsz:w.heap.size+1<v2.heap.size:=ltS HN.out
      go_upto_region 11 with (first|(refine ldN _ u bl (off+m*34) rfl rfl rfl HU.out ?_)|(refine stN (.tmp 6) (.tmp 112) u v2.heap.size 0 rfl rfl rfl rfl (newS _ _) (by show (0+34:Nat)≤34;omega) ?_))
      refine wp_genGG (fun W=>W.heap[v2.heap.size]?=some (.cells (valsNr u).toArray 90 (0,0))∧Below v2.heap.size v2 W) ⟨new_full u rfl rfl,below_setCells (Nat.le_refl _) _ _ _ (balloc (Below.refl _ _))⟩ (fun W9 h9=>?_);obtain ⟨hn9,hb9⟩:=h9;have HN9:=hD hn9;clear x0 x1 x2 x4 x5 x6 x7 x8 x20 x21 HRP HRL HRC hx0;replace HX:=hbk hb9 HX;replace HN:=hbk hb9 HN;replace HB:=hD (bkeep2 HB.out hb9)
      clear hb9;have y4:W9.cell? ⟨v2.heap.size,4,none⟩=some (.int .i64 u.n.ki):=cellS HN9.out 4;have y5:W9.cell? ⟨v2.heap.size,5,none⟩=some (.slice u.ca u.n.cs.length u.cc):=cellS HN9.out 5;have y6:W9.cell? ⟨v2.heap.size,6,none⟩=some (.slice u.ra u.n.rs.length u.rc):=cellS HN9.out 6;clear hn9
      by_cases hq:u.n.ki=1
      ·rw [hq] at y4
       have hcb:cellB u.n.cs.length u.n.rs.length p.n.ce=b:=by rw [<- HB3.out];simp [hq]
       have HCB:=hD hcb;have hrc:=node_ce (nodeAt HN.out);simp only [Nat.zero_add] at hrc;have HRC:=hD hrc;clear hq hcb HB3 hrc
       go_wp2_with (refine ldCellH HRC rfl rfl rfl ?_)
       with_reducible refine (svalidCell_v p.n.ce u.n.cs.length u.n.rs.length 0 u.cc u.rc 0 u.ca u.ra none b _ mu1 mu2 HCB.out).mono ?_
       rintro e u9 ⟨rfl,hbu⟩;clear y4 y5 y6 HRC;replace HB:=hD (bkeep2 HB.out hbu);clear hbu;go_wp2;go_ret;exact ⟨rfl,HB.out⟩
      ·obtain rfl:true=b:=by rw [<- HB3.out];simp [hq]
       have f9:(u.n.ki == 1)=false:=by rw [beq_eq_false_iff_ne];exact hq
       have f8:(u.n.ki != 1)=true:=by simp [bne,f9]
       have f7:decide (u.n.ki=1)=false:=decide_eq_false hq;have HQ:=hD hq;clear hq;go_wp2;go_ret;exact ⟨rfl,HB.out⟩
   ·have k2:decide ((0:Int)<((p.n.rs.length:Nat):Int))=true:=decide_eq_true (by omega)
    have k2n:0<p.n.rs.length:=by omega
    obtain rfl:false=b:=by rw [<- HBB.out,decide_eq_false g2,Bool.and_false];rfl
    clear g1 g2;go_wp2;go_ret;exact ⟨rfl,HB.out⟩
  ·have k1:decide ((0:Int)<((p.n.cs.length:Nat):Int))=true:=decide_eq_true (by omega)
   have k1n:0<p.n.cs.length:=by omega
   obtain rfl:false=b:=by rw [<- HBB.out,decide_eq_false g1,Bool.false_and];rfl
   clear g1;go_wp2;go_ret;exact ⟨rfl,HB.out⟩
theorem svalidTree_v (A:Option Addr) (c:Nat) (R:List Nr) (b:Bool) (w:World) (h:NrV w A R) (hr:RdR w R) (hL:R.length≤1048576) (hm:∀ p∈R,p.n.cs.length≤1048576∧p.n.rs.length≤1048576) (hb:treeB (R.map Nr.n)=b) :
  Calls Tryz.prog 43 #[.agg #[.slice A R.length c]] w fun e w'=>e=.returned (.bool b)∧Below w.heap.size w w':=by
 have hB0:Below w.heap.size w (w.alloc (.cells #[.slice A R.length c] 30 (0,0))):=balloc (Below.refl _ _);have HX:=hD (newS w (.cells #[.slice A R.length c] 30 (0,0)));have HB:=hD hB0;have HV:=hD (h.keep hB0);have HR:=hD (hr.keep hB0);have HM:=hD hm;have HBB:=hD hb;clear hB0 h hr hm hb
 go_enter Tryz.func43,Tryz.ntmps43
 go_wp2_with fail
 go_loopw [3] (fun i wr=>∃ k:Nat,k≤R.length∧i=.int .i64 k∧(List.range k).all (nokB (R.map Nr.n))=true∧wr.heap[w.heap.size]?=some (.cells #[.slice A R.length c] 30 (0,0))∧NrV wr A R∧RdR wr R∧Below w.heap.size w wr) (fun i _=>R.length-(intOf i).toNat)
 case atStart=>exact ⟨0,by omega,rfl,rfl,HX.out,HV.out,HR.out,HB.out⟩
 case round =>
  obtain ⟨k,hk,rfl,hall,hx,hv,hr,hB⟩:=hrel;clear HX HV HR HB;have hx0:=cellS hx 0;have lx:=ltS hx;have HX:=hD hx;have HV:=hD hv;have HR:=hD hr;have HB:=hD hB;have HALL:=hD hall;clear hx hv hr hB hall
  by_cases hlt:k<R.length
  ·have hd:decide ((k:Int)<(R.length:Int))=true:=by simpa using hlt
   have hget:R[k]?=some R[k]:=List.getElem?_eq_getElem hlt;generalize R[k]=p at *;have hnb:nokB (R.map Nr.n) k=(ndB p.n&&(upB k p.n&&clB (R.map Nr.n) k p.n)):=nokB_at (by rw [List.getElem?_map,hget];rfl);rw [nd_sp] at hnb;have HNB:=hD hnb;have HG:=hD hget;clear hnb hget
   have hcv:∀ cb,nokB (R.map Nr.n) k=cb→Calls Tryz.prog 70 #[.agg #[.slice A R.length c],.int .i64 k] wr fun e w'=>e=.returned (.bool cb)∧Below wr.heap.size wr w':=by
    intro cb hcb;rw [HNB.out] at hcb
    cases h0:spB p.n
    ·obtain rfl:false=cb:=by rw [<- hcb,h0];rfl
     exact svalidNode_no A c R k p _ HV.out HR.out HG.out hL HM.out h0
    ·exact svalidNode_yes A c R k p cb _ HV.out HR.out HG.out hL HM.out h0 (by rw [<- hcb,h0,Bool.true_and])
   cases h1:nokB (R.map Nr.n) k
   ·have HC:=hD (hcv false h1);clear hcv HNB
    go_wp2_with fail
    with_reducible refine (HC.out).mono ?_
    rintro e w1 ⟨rfl,hb⟩;clear hx0 HC;replace HB:=hD (bkeep2 HB.out hb);clear hb;have HH1:=hD h1;clear h1;go_wp2;go_ret;refine ⟨ret_bool ?_,HB.out⟩;rw [<- HBB.out];unfold treeB;rw [List.length_map,all_falseG (k:=k) (p:=k) (by rw [List.getElem?_range (by omega)]) HH1.out,Bool.and_false]
   ·have HC:=hD (hcv true h1);clear hcv HNB
    go_wp2_with fail
    with_reducible refine (HC.out).mono ?_
    rintro e w1 ⟨rfl,hb⟩;clear hx0 HC;replace HX:=hbk hb HX;replace HV:=hD (HV.out.keep hb);replace HR:=hD (HR.out.keep hb);replace HB:=hD (bkeep2 HB.out hb);clear hb;have HH1:=hD h1;clear h1;go_wp2
    go_roundw
    case rel=>exact ⟨k+1,by omega,by go_num,by rw [range_all_succ,HALL.out,HH1.out];rfl,HX.out,HV.out,HR.out,HB.out⟩
    case measure=>simp [intOf];omega
  ·have hd:decide ((k:Int)<(R.length:Int))=false:=decide_eq_false (by omega)
   obtain rfl:k=R.length:=by omega
   cases hl:rng R.length 1 10
   ·obtain rfl:false=b:=by rw [<- HBB.out];unfold treeB;rw [List.length_map,hl];rfl
    go_wp2_with fail
    with_reducible refine (inRange_w _ 1 10 false _ hl).mono ?_
    rintro e wq ⟨rfl,rfl⟩;go_wp2;go_ret;exact ⟨rfl,HB.out⟩
   ·obtain rfl:true=b:=by rw [<- HBB.out];unfold treeB;rw [List.length_map,hl,HALL.out];rfl
    go_wp2_with fail
    with_reducible refine (inRange_w _ 1 10 true _ hl).mono ?_
    rintro e wq ⟨rfl,rfl⟩;go_wp2;go_ret;exact ⟨rfl,HB.out⟩
theorem ValidTree_n (A:Option Addr) (c k:Nat) (R:List Nr) (b:Bool) (w:World) (hk:k=R.length) (h:NrV w A R) (hr:RdR w R) (hL:R.length≤1048576) (hm:∀ p∈R,p.n.cs.length≤1048576∧p.n.rs.length≤1048576) (hb:treeB (R.map Nr.n)=b) :
  Calls Tryz.prog 58 #[.agg #[.slice A k c]] w fun e w'=>e=.returned (.bool b)∧Below w.heap.size w w':=by
 subst hk;exact ValidTree_v A c R b w h hr hL hm hb
theorem svalidTree_n (A:Option Addr) (c k:Nat) (R:List Nr) (b:Bool) (w:World) (hk:k=R.length) (h:NrV w A R) (hr:RdR w R) (hL:R.length≤1048576) (hm:∀ p∈R,p.n.cs.length≤1048576∧p.n.rs.length≤1048576) (hb:treeB (R.map Nr.n)=b) :
  Calls Tryz.prog 43 #[.agg #[.slice A k c]] w fun e w'=>e=.returned (.bool b)∧Below w.heap.size w w':=by
 subst hk;exact svalidTree_v A c R b w h hr hL hm hb
theorem inRange_u (n a b:Int) (r:Bool) (w:World) (h:rng n a b=r):Calls Tryz.prog 44 #[.int .i64 n,.int .i64 a,.int .i64 b] w fun e w'=>e=.returned (.bool r)∧w=w':=by
 rw [<- h];exact inRange_any n a b w
theorem has_v (A:Option Addr) (c k:Nat) (i:Int) (r:Bool) (w:World) (hk:k≤1048576) (h:rng i 0 ((k:Int)-1)=r):Calls Tryz.prog 41 #[.agg #[.slice A k c],.int .i64 i] w fun e w'=>e=.returned (.bool r)∧Below w.heap.size w w':=by
 go_enter Tryz.func41,Tryz.ntmps41
 go_wp2_with fail
 with_reducible refine (within_w i 0 ((k:Int)-1) r _ h).mono ?_
 rintro e w' ⟨rfl,rfl⟩;go_wp2;go_ret;exact ⟨rfl,balloc (Below.refl _ _)⟩
theorem goodNode_v (A:Option Addr) (c k:Nat) (R:List Nr) (i:Int) (b:Bool) (w:World) (hk:k=R.length) (h:NrV w A R) (hr:RdR w R) (hL:R.length≤1048576) (hm:∀ p∈R,p.n.cs.length≤1048576∧p.n.rs.length≤1048576) (hb:(treeB (R.map Nr.n)&&rng i 0 ((k:Int)-1))=b) :
  Calls Tryz.prog 38 #[.agg #[.slice A k c],.int .i64 i] w fun e w'=>e=.returned (.bool b)∧Below w.heap.size w w':=by
 have hkl:k≤1048576:=by omega
 have hB0:Below w.heap.size w (w.alloc (.cells #[.slice A k c] 30 (0,0))):=balloc (Below.refl _ _);have HX:=hD (newS w (.cells #[.slice A k c] 30 (0,0)));have HB:=hD hB0;have HV:=hD (h.keep hB0);have HR:=hD (hr.keep hB0);have HM:=hD hm;have HK:=hD hk;have x0:=cellS HX.out 0;clear hB0 h hr hm hk
 cases ht:treeB (R.map Nr.n)
 ·obtain rfl:false=b:=by rw [<- hb,ht];rfl
  have HT:=hD ht;clear hb ht
  go_enter Tryz.func38,Tryz.ntmps38
  go_wp2_with fail
  with_reducible refine (svalidTree_n A c k R false _ HK.out HV.out HR.out hL HM.out HT.out).mono ?_
  rintro e w1 ⟨rfl,hb⟩;clear x0;replace HX:=hbk hb HX;replace HB:=hD (bkeep2 HB.out hb);clear hb;have x0:=cellS HX.out 0;go_wp2;go_ret;exact ⟨rfl,HB.out⟩
 ·have hb2:rng i 0 ((k:Int)-1)=b:=by rw [<- hb,ht];rfl
  have HT:=hD ht;have HBB:=hD hb2;clear hb ht hb2
  go_enter Tryz.func38,Tryz.ntmps38
  go_wp2_with fail
  with_reducible refine (svalidTree_n A c k R true _ HK.out HV.out HR.out hL HM.out HT.out).mono ?_
  rintro e w1 ⟨rfl,hb⟩;clear x0;replace HX:=hbk hb HX;replace HB:=hD (bkeep2 HB.out hb);clear hb;have x0:=cellS HX.out 0
  go_wp2_with fail
  with_reducible refine (inRange_u i 0 ((k:Int)-1) b _ HBB.out).mono ?_
  rintro e w2 ⟨rfl,rfl⟩;go_wp2;go_ret;exact ⟨rfl,HB.out⟩
theorem trOK_of {L:List Nd} (h:treeB L=true):TrOK L where
 l1:=(tree_len h).1
 l10:=(tree_len h).2
 up:=fun k n hn=>by
  obtain ⟨_,hu,_⟩:=tree_nok h hn;unfold upB at hu
  split at hu
  ·rename_i e;exact .inl ⟨e,by simpa using hu⟩
  ·rename_i e;rw [rng_iff] at hu;right;omega
 sz:=fun k n hn=>by
  obtain ⟨hd,_,_⟩:=tree_nok h hn;simp only [ndB,Bool.and_eq_true,rng_iff] at hd;obtain ⟨⟨h1,h2⟩,h3,_⟩:=hd;exact ⟨h1,h2,by omega⟩
 pk:=fun k n hn=>by
  obtain ⟨hd,_,_⟩:=tree_nok h hn;simp only [ndB,Bool.and_eq_true] at hd;exact hd.2.2.2.1
 pl:=fun k n hn=>by
  obtain ⟨hd,_,_⟩:=tree_nok h hn;simp only [ndB,Bool.and_eq_true] at hd;exact hd.2.2.2.2.2.2.2.2
 li:=fun k n hn h1=>own_lines (tree_nok h hn).1 h1
 ce:=fun k n u hn h0 hu h1=>by
  obtain ⟨_,_,hc⟩:=tree_nok h hn;unfold clB at hc;rw [if_neg (by omega),hu] at hc
  simpa [h1] using hc
def WsV (lo:Nat) (w:World) (R:List Nr) (v:Value):Prop:=∃ g:Nat,v=.slice (some ⟨g,0,none⟩) R.length R.length∧lo≤g∧RbK 2 w g 96 ((List.range R.length).map fun k=>valsWi (szM (R.map Nr.n) k))
theorem WsV.keep {lo:Nat} {w w':World} {R:List Nr} {v:Value} (h:WsV lo w R v) (hb:Below w.heap.size w w'):WsV lo w' R v:=let ⟨g,e,hl,k⟩:=h;⟨g,e,hl,k.keep hb⟩
theorem WsV.mono {lo lo':Nat} {w:World} {R:List Nr} {v:Value} (h:WsV lo w R v) (hl:lo'≤lo):WsV lo' w R v:=let ⟨g,e,h1,k⟩:=h;⟨g,e,by omega,k⟩
def rqM (L:List Nd) (i:Int):Int × Int:=if (treeB L&&rng i 0 ((L.length:Int)-1))=true then szM L i.toNat else (-1,-1)
theorem WsV.at {lo:Nat} {w:World} {R:List Nr} {g:Nat} (h:RbK 2 w g 96 ((List.range R.length).map fun k=>valsWi (szM (R.map Nr.n) k))) {j:Nat} (hj:j<R.length):w.cell? ⟨g,j*2,none⟩=some (.int .i64 (szM (R.map Nr.n) j).1)∧w.cell? ⟨g,j*2+1,none⟩=some (.int .i64 (szM (R.map Nr.n) j).2):=by
 obtain ⟨cs,hh,hs,hc⟩:=h
 have:=hc j (valsWi (szM (R.map Nr.n) j)) (by simpa using hj) (by rw [List.getElem?_map,List.getElem?_range hj];rfl)
 exact ⟨(cellS hh _).trans (this 0 _ rfl),(cellS hh _).trans (this 1 _ rfl)⟩
def GRB (lo:Nat) (w:World) (x:Value) (M:List Re):Prop:=(x=.slice none 0 0∧M=[])∨∃ g n,x=.slice (some ⟨g,0,none⟩) n n∧n=M.length∧lo≤g∧ReB w g M
theorem GRB.rv {lo:Nat} {w:World} {x:Value} {M:List Re} (h:GRB lo w x M):ReR w x M:=by
 rcases h with ⟨rfl,rfl⟩ | ⟨g,n,rfl,rfl,_,hk⟩
 ·exact ⟨none,0,rfl,ReV.nil _ _⟩
 ·exact ⟨_,_,rfl,hk.v⟩
theorem GRB.keep {lo:Nat} {w w':World} {x:Value} {M:List Re} (h:GRB lo w x M) (hb:Below w.heap.size w w'):GRB lo w' x M :=
 h.imp id fun ⟨g,n,h1,h2,h3,hk⟩=>⟨g,n,h1,h2,h3,hk.keep hb⟩
def mkR (k:Nat):Re:=⟨(k:Int)*4+1,(k:Int)*4+1+1,(k:Int)*4+1+1+1,(k:Int)*4+1+1+1+1⟩
def MKR (n:Nat):List Re:=(List.range n).map mkR
theorem GRB.but {lo g0:Nat} {w w':World} {v:Value} {M:List Re} (h:GRB lo w v M) (hb:w.grownBy w' (some g0)) (hg:g0<lo):GRB lo w' v M :=
 h.imp id fun ⟨g,n,h1,h2,h3,hk⟩=>⟨g,n,h1,h2,h3,hk.but hb (by omega)⟩
def GRM (w:World) (v:Value) (n:Nat):Prop:=(v=.slice none 0 0∧n=0)∨∃ g,v=.slice (some ⟨g,0,none⟩) n n∧ReB w g (MKR n)
theorem GRM.keep {w w':World} {v:Value} {n:Nat} (h:GRM w v n) (hb:Below w.heap.size w w'):GRM w' v n :=
 h.imp id fun ⟨g,h1,hk⟩=>⟨g,h1,hk.keep hb⟩
def rgG (u v:Int):Bool:=rng u 0 400&&rng v 0 400
theorem rgG_yes {u v:Int} (h:rgG u v=true):(0≤u∧u≤400)∧(0≤v∧v≤400):=by simpa only [rgG,Bool.and_eq_true,rng_iff] using h
theorem validRoom_g (u v:Int) (w:World):Calls Tryz.prog 33 #[.int .i64 u,.int .i64 v] w fun e w'=>e=.returned (.bool (rgG u v))∧w=w':=by
 unfold rgG
 cases h1:rng u 0 400
 ·go_enter Tryz.func33,Tryz.ntmps33
  go_wp2_with fail
  with_reducible refine (within_any _ _ _ _).mono ?_
  rintro e w2 ⟨rfl,rfl⟩;go_wp2;go_ret;exact ⟨by simp,rfl⟩
 ·go_enter Tryz.func33,Tryz.ntmps33
  go_wp2_with fail
  with_reducible refine (within_any _ _ _ _).mono ?_
  rintro e w2 ⟨rfl,rfl⟩
  go_wp2_with fail
  with_reducible refine (within_any _ _ _ _).mono ?_
  rintro e w2 ⟨rfl,rfl⟩;go_wp2;go_ret;exact ⟨by simp,rfl⟩
theorem goodRoom_g (u v:Int) (w:World):Calls Tryz.prog 28 #[.int .i64 u,.int .i64 v] w fun e w'=>e=.returned (.bool (rgG u v))∧w=w':=by
 unfold rgG
 cases h1:rng u 0 400
 ·go_enter Tryz.func28,Tryz.ntmps28
  go_wp2_with fail
  with_reducible refine (inRange_any _ _ _ _).mono ?_
  rintro e w2 ⟨rfl,rfl⟩;go_wp2;go_ret;exact ⟨by simp,rfl⟩
 ·go_enter Tryz.func28,Tryz.ntmps28
  go_wp2_with fail
  with_reducible refine (inRange_any _ _ _ _).mono ?_
  rintro e w2 ⟨rfl,rfl⟩
  go_wp2_with fail
  with_reducible refine (inRange_any _ _ _ _).mono ?_
  rintro e w2 ⟨rfl,rfl⟩;go_wp2;go_ret;exact ⟨by simp,rfl⟩
def lyL (L:List Nd) (a b:Int):List Re:=if (treeB L&&rgG a b)=true then (List.range L.length).map (lrM L a b) else []
theorem GRB.mono {lo lo':Nat} {w:World} {x:Value} {M:List Re} (h:GRB lo w x M) (hl:lo'≤lo):GRB lo' w x M:=h.imp id fun ⟨g,n,h1,h2,h3,hk⟩=>⟨g,n,h1,h2,Nat.le_trans hl h3,hk⟩
theorem LayoutTree_x (A:Option Addr) (c k:Nat) (R:List Nr) (a b:Int) (w:World) (hk:k=R.length) (h:NrV w A R) (hr:RdR w R) (hL:R.length≤1048576) (hm:∀ p∈R,p.n.cs.length≤1048576∧p.n.rs.length≤1048576) :
  Calls Tryz.prog 40 #[.agg #[.slice A k c],.int .i64 a,.int .i64 b] w fun e w'=>(∃ x,e=.returned x∧GRB w.heap.size w' x (lyL (R.map Nr.n) a b)∧((lyL (R.map Nr.n) a b).length=0→x=.slice none 0 0))∧Below w.heap.size w w':=by
 have hB0:Below w.heap.size w (w.alloc (.cells #[.slice A k c] 30 (0,0))):=balloc (Below.refl _ _);have HX:=hD (newS w (.cells #[.slice A k c] 30 (0,0)));have HB:=hD hB0;have HV:=hD (h.keep hB0);have HR:=hD (hr.keep hB0);have HM:=hD hm;have HK:=hD hk;have x0:=cellS HX.out 0;clear hB0 h hr hm hk
 cases ht:treeB (R.map Nr.n)
 ·rw [show lyL (R.map Nr.n) a b=[] by simp [lyL,ht]];have HT:=hD ht;clear ht
  go_enter Tryz.func40,Tryz.ntmps40
  go_wp2_with fail
  with_reducible refine (ValidTree_n A c k R false _ HK.out HV.out HR.out hL HM.out HT.out).mono ?_
  rintro e w1 ⟨rfl,hb⟩;clear x0;replace HX:=hbk hb HX;replace HB:=hD (bkeep2 HB.out hb);clear hb;have x0:=cellS HX.out 0;go_wp2;go_ret;exact ⟨⟨_,rfl,.inl ⟨rfl,rfl⟩,fun _=>rfl⟩,HB.out⟩
 ·cases hg:rgG a b
  ·rw [show lyL (R.map Nr.n) a b=[] by simp [lyL,hg]];have HT:=hD ht;clear ht
   go_enter Tryz.func40,Tryz.ntmps40
   go_wp2_with fail
   with_reducible refine (ValidTree_n A c k R true _ HK.out HV.out HR.out hL HM.out HT.out).mono ?_
   rintro e w1 ⟨rfl,hb⟩;clear x0;replace HX:=hbk hb HX;replace HB:=hD (bkeep2 HB.out hb);clear hb;have x0:=cellS HX.out 0
   go_wp2_with fail
   with_reducible refine (validRoom_g a b _).mono ?_
   rintro e w2 ⟨rfl,rfl⟩;rw [hg];clear hg;go_wp2;go_ret;exact ⟨⟨_,rfl,.inl ⟨rfl,rfl⟩,fun _=>rfl⟩,HB.out⟩
  ·rw [show lyL (R.map Nr.n) a b=(List.range k).map (lrM (R.map Nr.n) a b) by simp [lyL,ht,hg,HK.out]];have HT:=hD ht;have HG:=hD (rgG_yes hg);clear ht
   go_enter Tryz.func40,Tryz.ntmps40
   go_wp2_with fail
   with_reducible refine (ValidTree_n A c k R true _ HK.out HV.out HR.out hL HM.out HT.out).mono ?_
   rintro e w1 ⟨rfl,hb⟩;clear x0;replace HX:=hbk hb HX;replace HV:=hD (HV.out.keep hb);replace HR:=hD (HR.out.keep hb);replace HB:=hD (bkeep2 HB.out hb);clear hb;have x0:=cellS HX.out 0
   go_wp2_with fail
   with_reducible refine (validRoom_g a b _).mono ?_
   rintro e w2 ⟨rfl,rfl⟩;rw [hg];clear hg;have hsz:=HB.out.size
   go_wp2_with fail
   with_reducible refine (layout_v A c k R a b _ (trOK_of HT.out) HK.out HV.out HR.out HG.out.1 HG.out.2).mono ?_
   rintro e w3 ⟨⟨g,rfl,hgl,hre⟩,hb⟩;have HRE:=hD hre;clear x0 hre;replace HB:=hD (bkeep2 HB.out hb);clear hb;go_wp2;go_ret;exact ⟨⟨_,rfl,.inr ⟨g,_,rfl,by rw [List.length_map,List.length_range],Nat.le_trans hsz hgl,HRE.out⟩,fun h0=>by rw [List.length_map,List.length_range] at h0;have:=(tree_len HT.out).1;rw [List.length_map] at this;have:=HK.out;omega⟩,HB.out⟩
section
attribute [local go_sem 5000] run_mx run_mn run_eqlR run_neqR
set_option maxRecDepth 100000
def Smw (a b c d:Int):Prop:=(-8000000000000000≤a∧a≤8000000000000000)∧(-8000000000000000≤b∧b≤8000000000000000)∧(-8000000000000000≤c∧c≤8000000000000000)∧(-8000000000000000≤d∧d≤8000000000000000)
theorem Smw_of {a b c d:Int} (h:(-8000000000000000≤a∧a≤8000000000000000)∧(-8000000000000000≤b∧b≤8000000000000000)∧(-8000000000000000≤c∧c≤8000000000000000)∧(-8000000000000000≤d∧d≤8000000000000000)):Smw a b c d:=h
theorem Smw.out {a b c d:Int} (h:Smw a b c d):(-8000000000000000≤a∧a≤8000000000000000)∧(-8000000000000000≤b∧b≤8000000000000000)∧(-8000000000000000≤c∧c≤8000000000000000)∧(-8000000000000000≤d∧d≤8000000000000000):=h
def Lw (x y u v:Int):Prop:=0≤u∧u≤1000000000000000∧0≤v∧v≤1000000000000000∧-1000000000000000≤x∧x≤1000000000000000∧-1000000000000000≤y∧y≤1000000000000000
theorem Lw.out {x y u v:Int} (h:Lw x y u v):0≤u∧u≤1000000000000000∧0≤v∧v≤1000000000000000∧-1000000000000000≤x∧x≤1000000000000000∧-1000000000000000≤y∧y≤1000000000000000:=h
theorem Smw_lw {x y u v:Int} (h:Lw x y u v):Smw x y u v:=by unfold Lw at h;apply Smw_of;omega
theorem meet_bdl {x y u v x' y' u' v':Int} (h1:Lw x y u v) (h2:Lw x' y' u' v'):-1000000000000000≤mx x x'∧mx x x'≤1000000000000000∧-1000000000000000≤mx y y'∧mx y y'≤1000000000000000∧-2000000000000000≤mn (x+u) (x'+u')∧mn (x+u) (x'+u')≤2000000000000000∧-2000000000000000≤mn (y+v) (y'+v')∧mn (y+v) (y'+v')≤2000000000000000:=by
 have:=mx_spec x x';have:=mx_spec y y';have:=mn_spec (x+u) (x'+u');have:=mn_spec (y+v) (y'+v')
 unfold Lw at h1 h2;omega
theorem Lw.meet {x y u v x' y' u' v':Int} (h1:Lw x y u v) (h2:Lw x' y' u' v') (h:hitB x y u v x' y' u' v'=true):Lw (mx x x') (mx y y') (mn (x+u) (x'+u')-mx x x') (mn (y+v) (y'+v')-mx y y'):=by
 have:=mx_spec x x';have:=mx_spec y y';have:=mn_spec (x+u) (x'+u');have:=mn_spec (y+v) (y'+v')
 rw [hitB_iff] at h;unfold Lw at *;omega
theorem right_l (x y u v:Int) (w:World) (hS:Smw x y u v):Calls Tryz.prog 72 #[.agg #[.int .i64 (x),.int .i64 (y),.int .i64 (u),.int .i64 (v)]] w fun e w'=>e=.returned (.int .i64 (x+u))∧Below w.heap.size w w':=by
 obtain ⟨⟨s1,s2⟩,⟨s3,s4⟩,⟨s5,s6⟩,⟨s7,s8⟩⟩:=hS.out;clear hS
 go_enter Tryz.func72,Tryz.ntmps72
 go_wp2
 all_goals try go_quiet (fail)
 all_goals try go_wp2
 go_ret;exact ⟨rfl,((Below.refl _ _).alloc (Nat.le_refl _) _)⟩
theorem bottom_l (x y u v:Int) (w:World) (hS:Smw x y u v):Calls Tryz.prog 73 #[.agg #[.int .i64 (x),.int .i64 (y),.int .i64 (u),.int .i64 (v)]] w fun e w'=>e=.returned (.int .i64 (y+v))∧Below w.heap.size w w':=by
 obtain ⟨⟨s1,s2⟩,⟨s3,s4⟩,⟨s5,s6⟩,⟨s7,s8⟩⟩:=hS.out;clear hS
 go_enter Tryz.func73,Tryz.ntmps73
 go_wp2
 all_goals try go_quiet (fail)
 all_goals try go_wp2
 go_ret;exact ⟨rfl,((Below.refl _ _).alloc (Nat.le_refl _) _)⟩
theorem corners_l (l t r b:Int) (w:World) (hS:Smw l t r b) :
  Calls Tryz.prog 105 #[.int .i64 l,.int .i64 t,.int .i64 r,.int .i64 b] w fun e w'=>e=.returned (.agg #[.int .i64 (l),.int .i64 (t),.int .i64 (r-l),.int .i64 (b-t)])∧Below w.heap.size w w':=by
 obtain ⟨⟨s1,s2⟩,⟨s3,s4⟩,⟨s5,s6⟩,⟨s7,s8⟩⟩:=hS.out;clear hS
 go_enter Tryz.func105,Tryz.ntmps105
 go_wp2;exact bodyPost_ret (v:=.agg #[.int .i64 (l),.int .i64 (t),.int .i64 (r-l),.int .i64 (b-t)]) (by simp [results,Tryz.results105,go_sem]) rfl ⟨rfl,(Below.refl _ _).alloc (Nat.le_refl _) _⟩
theorem meet_nol (x y u v x' y' u' v':Int) (w:World) (h1:Lw x y u v) (h2:Lw x' y' u' v') (h3:hitB x y u v x' y' u' v'=false) :
  Calls Tryz.prog 69 #[.agg #[.int .i64 (x),.int .i64 (y),.int .i64 (u),.int .i64 (v)],.agg #[.int .i64 (x'),.int .i64 (y'),.int .i64 (u'),.int .i64 (v')]] w fun e w'=>(e=.returned (.tuple #[.agg #[.int .i64 (0),.int .i64 (0),.int .i64 (0),.int .i64 (0)],.bool false]))∧Below w.heap.size w w':=by
 obtain ⟨m1,m2,m3,m4,m5,m6,m7,m8⟩:=meet_bdl h1 h2;have S1:=Smw_lw h1;have S2:=Smw_lw h2;have S3:Smw (mx x x') (mx y y') (mn (x+u) (x'+u')) (mn (y+v) (y'+v')):=Smw_of (by omega);rw [hitB_not] at h3
 by_cases h4:mn (x+u) (x'+u')-mx x x'≤0
 all_goals
  go_enter Tryz.func69,Tryz.ntmps69
  go_wp2_with fail
  refine wp_named (fun W1 e1=>?_);replace e1:=hD e1;refine wp_region_grow 21 2 (·<22) (by kernel_rfl) (by kernel_rfl) rfl ?_
  iterate 21 (refine wpG_step (fun K hK=>?_);apply Exists.intro;refine ⟨.inl ⟨rfl,fun w' hw'=>?_⟩,?_⟩;(focus ((obtain ⟨hc,hf⟩:=bcell hw'.out);(have hcS:=bcellS hw'.out);go_simp <;> first | rfl|(go_at_call 72;exact right_l _ _ _ _ _ (by assumption))|(go_at_call 73;exact bottom_l _ _ _ _ _ (by assumption))|(go_at_call 105;exact corners_l _ _ _ _ _ (by assumption))));(go_simp;refine hK _ ?_;clear hK K))
  refine wpG_nil ?_;refine wpK_one (i:=21) (by kernel_rfl) rfl rfl (by kernel_rfl) (fun w1_0 h1_0=>?_);go_simp;refine ⟨Gr.alloc _ _,?_⟩;refine wpK_tail (by kernel_rfl) (fun w1_9 h1_9=>?_);obtain ⟨hc1_9,hf1_9⟩:=bcell h1_9.out;refine wpAny_one (i:=22) (by kernel_rfl) rfl rfl ?_;go_simp;refine wpAny_end (by kernel_rfl) ?_
  have s1_a:W1.heap.size≤w1_9.heap.size:=by rw [e1.out];exact Nat.le_trans h1_0.out.size (Nat.le_trans (by simp) h1_9.out.size)
  have s1_b:W1.heap.size≤w1_0.heap.size:=by rw [e1.out];exact h1_0.out.size
  have s1_c:w1_0.heap.size<w1_9.heap.size:=by have:=h1_9.out.size;simp at this;omega
  have b1_a:Below W1.heap.size W1 w1_9:=by rw [e1.out];exact bgrow (balloc (bgrow (Below.refl _ _).drew h1_0)) h1_9
  refine NoPan.gen (fun wf=>Below W1.heap.size W1 wf∧W1.heap.size≤w1_0.heap.size∧w1_0.heap.size<wf.heap.size∧wf.cell? ⟨w1_0.heap.size,0,none⟩=some (.int .i64 (mx x x'))∧wf.frozen? ⟨w1_0.heap.size,0,none⟩=false∧wf.cell? ⟨w1_0.heap.size,1,none⟩=some (.int .i64 (mx y y'))∧wf.frozen? ⟨w1_0.heap.size,1,none⟩=false∧wf.cell? ⟨w1_0.heap.size,2,none⟩=some (.int .i64 (mn (x+u) (x'+u')-mx x x'))∧wf.frozen? ⟨w1_0.heap.size,2,none⟩=false∧wf.cell? ⟨w1_0.heap.size,3,none⟩=some (.int .i64 (mn (y+v) (y'+v')-mx y y'))∧wf.frozen? ⟨w1_0.heap.size,3,none⟩=false) ?_ (fun wf1 hwf1=>?_)
  ·refine ⟨by repeat (first | exact b1_a|(refine bset ?_ ?_;rotate_left;((try dsimp only);omega))),?_⟩;refine ⟨s1_b,?_⟩;refine ⟨by simp;omega,?_⟩;go_simp
  generalize hgb1:w1_0.heap.size=b1 at *;have E:=e1.out;subst E;obtain ⟨hB1,hl1,hu1,c1_0,f1_0,c1_1,f1_1,c1_2,f1_2,c1_3,f1_3⟩:=hwf1
  try simp only [World.size_alloc] at hl1
  clear hgb1 e1 hc1_9 hf1_9 s1_a s1_b s1_c b1_a h1_9 w1_9 h1_0 w1_0;obtain ⟨hc1,hf1⟩:=bcell hB1;go_wp2
  exact bodyPost_ret (v:=.tuple #[.agg #[.int .i64 (0),.int .i64 (0),.int .i64 (0),.int .i64 (0)],.bool false]) (by simp only [results,Tryz.results69];go_simp) rfl ⟨rfl,(by repeat (first | with_reducible exact Below.refl _ _ | with_reducible assumption | with_reducible refine balloc ?_|(with_reducible refine bset ?_ ?_;rotate_left;((try dsimp only);omega)) | refine bkeep2 ?_ (by assumption) | with_reducible refine Below.drew ?_))⟩
theorem meet_yesl (x y u v x' y' u' v':Int) (w:World) (h1:Lw x y u v) (h2:Lw x' y' u' v') (h3:hitB x y u v x' y' u' v'=true) :
  Calls Tryz.prog 69 #[.agg #[.int .i64 (x),.int .i64 (y),.int .i64 (u),.int .i64 (v)],.agg #[.int .i64 (x'),.int .i64 (y'),.int .i64 (u'),.int .i64 (v')]] w fun e w'=>(e=.returned (.tuple #[.agg #[.int .i64 (mx x x'),.int .i64 (mx y y'),.int .i64 (mn (x+u) (x'+u')-mx x x'),.int .i64 (mn (y+v) (y'+v')-mx y y')],.bool true]))∧Below w.heap.size w w':=by
 obtain ⟨m1,m2,m3,m4,m5,m6,m7,m8⟩:=meet_bdl h1 h2;have S1:=Smw_lw h1;have S2:=Smw_lw h2;have S3:Smw (mx x x') (mx y y') (mn (x+u) (x'+u')) (mn (y+v) (y'+v')):=Smw_of (by omega);rw [hitB_iff] at h3;obtain ⟨h4,h5⟩:=h3
 all_goals
  go_enter Tryz.func69,Tryz.ntmps69
  go_wp2_with fail
  refine wp_named (fun W1 e1=>?_);replace e1:=hD e1;refine wp_region_grow 21 2 (·<22) (by kernel_rfl) (by kernel_rfl) rfl ?_
  iterate 21 (refine wpG_step (fun K hK=>?_);apply Exists.intro;refine ⟨.inl ⟨rfl,fun w' hw'=>?_⟩,?_⟩;(focus ((obtain ⟨hc,hf⟩:=bcell hw'.out);(have hcS:=bcellS hw'.out);go_simp <;> first | rfl|(go_at_call 72;exact right_l _ _ _ _ _ (by assumption))|(go_at_call 73;exact bottom_l _ _ _ _ _ (by assumption))|(go_at_call 105;exact corners_l _ _ _ _ _ (by assumption))));(go_simp;refine hK _ ?_;clear hK K))
  refine wpG_nil ?_;refine wpK_one (i:=21) (by kernel_rfl) rfl rfl (by kernel_rfl) (fun w1_0 h1_0=>?_);go_simp;refine ⟨Gr.alloc _ _,?_⟩;refine wpK_tail (by kernel_rfl) (fun w1_9 h1_9=>?_);obtain ⟨hc1_9,hf1_9⟩:=bcell h1_9.out;refine wpAny_one (i:=22) (by kernel_rfl) rfl rfl ?_;go_simp;refine wpAny_end (by kernel_rfl) ?_
  have s1_a:W1.heap.size≤w1_9.heap.size:=by rw [e1.out];exact Nat.le_trans h1_0.out.size (Nat.le_trans (by simp) h1_9.out.size)
  have s1_b:W1.heap.size≤w1_0.heap.size:=by rw [e1.out];exact h1_0.out.size
  have s1_c:w1_0.heap.size<w1_9.heap.size:=by have:=h1_9.out.size;simp at this;omega
  have b1_a:Below W1.heap.size W1 w1_9:=by rw [e1.out];exact bgrow (balloc (bgrow (Below.refl _ _).drew h1_0)) h1_9
  refine NoPan.gen (fun wf=>Below W1.heap.size W1 wf∧W1.heap.size≤w1_0.heap.size∧w1_0.heap.size<wf.heap.size∧wf.cell? ⟨w1_0.heap.size,0,none⟩=some (.int .i64 (mx x x'))∧wf.frozen? ⟨w1_0.heap.size,0,none⟩=false∧wf.cell? ⟨w1_0.heap.size,1,none⟩=some (.int .i64 (mx y y'))∧wf.frozen? ⟨w1_0.heap.size,1,none⟩=false∧wf.cell? ⟨w1_0.heap.size,2,none⟩=some (.int .i64 (mn (x+u) (x'+u')-mx x x'))∧wf.frozen? ⟨w1_0.heap.size,2,none⟩=false∧wf.cell? ⟨w1_0.heap.size,3,none⟩=some (.int .i64 (mn (y+v) (y'+v')-mx y y'))∧wf.frozen? ⟨w1_0.heap.size,3,none⟩=false) ?_ (fun wf1 hwf1=>?_)
  ·refine ⟨by repeat (first | exact b1_a|(refine bset ?_ ?_;rotate_left;((try dsimp only);omega))),?_⟩;refine ⟨s1_b,?_⟩;refine ⟨by simp;omega,?_⟩;go_simp
  generalize hgb1:w1_0.heap.size=b1 at *;have E:=e1.out;subst E;obtain ⟨hB1,hl1,hu1,c1_0,f1_0,c1_1,f1_1,c1_2,f1_2,c1_3,f1_3⟩:=hwf1
  try simp only [World.size_alloc] at hl1
  clear hgb1 e1 hc1_9 hf1_9 s1_a s1_b s1_c b1_a h1_9 w1_9 h1_0 w1_0;obtain ⟨hc1,hf1⟩:=bcell hB1;go_wp2
  exact bodyPost_ret (v:=.tuple #[.agg #[.int .i64 (mx x x'),.int .i64 (mx y y'),.int .i64 (mn (x+u) (x'+u')-mx x x'),.int .i64 (mn (y+v) (y'+v')-mx y y')],.bool true]) (by simp only [results,Tryz.results69];go_simp) rfl ⟨rfl,(by repeat (first | with_reducible exact Below.refl _ _ | with_reducible assumption | with_reducible refine balloc ?_|(with_reducible refine bset ?_ ?_;rotate_left;((try dsimp only);omega)) | refine bkeep2 ?_ (by assumption) | with_reducible refine Below.drew ?_))⟩
theorem smeet_yesl (x y u v x' y' u' v':Int) (w:World) (h1:Lw x y u v) (h2:Lw x' y' u' v') (h3:hitB x y u v x' y' u' v'=true) :
  Calls Tryz.prog 52 #[.agg #[.int .i64 (x),.int .i64 (y),.int .i64 (u),.int .i64 (v)],.agg #[.int .i64 (x'),.int .i64 (y'),.int .i64 (u'),.int .i64 (v')]] w fun e w'=>e=.returned (.tuple #[.agg #[.int .i64 (mx x x'),.int .i64 (mx y y'),.int .i64 (mn (x+u) (x'+u')-mx x x'),.int .i64 (mn (y+v) (y'+v')-mx y y')],.bool true])∧Below w.heap.size w w':=by
 obtain ⟨m1,m2,m3,m4,m5,m6,m7,m8⟩:=meet_bdl h1 h2;obtain ⟨a1,a2,a3,a4,a5,a6,a7,a8⟩:=h1.out;obtain ⟨b1,b2,b3,b4,b5,b6,b7,b8⟩:=h2.out;obtain ⟨g1,g2⟩:=hitB_iff.1 h3;clear h1 h2 h3
 go_enter Tryz.func52,Tryz.ntmps52
 go_wp2
 exact bodyPost_ret (v:=.tuple #[.agg #[.int .i64 (mx x x'),.int .i64 (mx y y'),.int .i64 (mn (x+u) (x'+u')-mx x x'),.int .i64 (mn (y+v) (y'+v')-mx y y')],.bool true]) (by simp only [results,Tryz.results52];go_simp) rfl ⟨rfl,(by repeat (first | with_reducible exact Below.refl _ _ | with_reducible assumption | with_reducible refine balloc ?_|(with_reducible refine bset ?_ ?_;rotate_left;((try dsimp only);omega)) | refine bkeep2 ?_ (by assumption) | with_reducible refine Below.drew ?_))⟩
theorem smeet_nol (x y u v x' y' u' v':Int) (w:World) (h1:Lw x y u v) (h2:Lw x' y' u' v') (h3:hitB x y u v x' y' u' v'=false) :
  Calls Tryz.prog 52 #[.agg #[.int .i64 (x),.int .i64 (y),.int .i64 (u),.int .i64 (v)],.agg #[.int .i64 (x'),.int .i64 (y'),.int .i64 (u'),.int .i64 (v')]] w fun e w'=>e=.returned (.tuple #[.agg #[.int .i64 (0),.int .i64 (0),.int .i64 (0),.int .i64 (0)],.bool false])∧Below w.heap.size w w':=by
 obtain ⟨m1,m2,m3,m4,m5,m6,m7,m8⟩:=meet_bdl h1 h2;obtain ⟨a1,a2,a3,a4,a5,a6,a7,a8⟩:=h1.out;obtain ⟨b1,b2,b3,b4,b5,b6,b7,b8⟩:=h2.out;have g:=hitB_not.1 h3;clear h1 h2 h3
 by_cases g1:mn (x+u) (x'+u')-mx x x'≤0
 all_goals
  go_enter Tryz.func52,Tryz.ntmps52
  go_wp2
  exact bodyPost_ret (v:=.tuple #[.agg #[.int .i64 (0),.int .i64 (0),.int .i64 (0),.int .i64 (0)],.bool false]) (by simp only [results,Tryz.results52];go_simp) rfl ⟨rfl,(by repeat (first | with_reducible exact Below.refl _ _ | with_reducible assumption | with_reducible refine balloc ?_|(with_reducible refine bset ?_ ?_;rotate_left;((try dsimp only);omega)) | refine bkeep2 ?_ (by assumption) | with_reducible refine Below.drew ?_))⟩
end
def rcN (M:List Re) (i:Nat):Re:=(M[i]?).getD ⟨0,0,0,0⟩
def paX (L:List Nd) (i:Nat):Nat:=(((L[i]?).map Nd.pa).getD 0).toNat
theorem rcN_at {M:List Re} {i:Nat} {S:Re} (h:M[i]?=some S):rcN M i=S:=by unfold rcN;rw [h];rfl
theorem GRB.sl {lo:Nat} {w:World} {x:Value} {M:List Re} (h:GRB lo w x M):∃ A1,x=.slice A1 M.length M.length∧(0<M.length→∃ g,A1=some ⟨g,0,none⟩∧lo≤g∧ReB w g M):=by
 rcases h with ⟨rfl,rfl⟩ | ⟨g,n,rfl,rfl,hg,hk⟩
 ·exact ⟨none,rfl,fun h=>absurd h (by simp)⟩
 ·exact ⟨_,rfl,fun _=>⟨g,rfl,hg,hk⟩⟩
theorem lyL_ok {L:List Nd} {a b:Int} (h:0<(lyL L a b).length):TrOK L∧(lyL L a b).length=L.length∧∀ S∈lyL L a b,Lw S.x S.y S.u S.v:=by
 unfold lyL at *
 split at h
 ·rename_i e
  rw [if_pos e];rw [Bool.and_eq_true] at e;have hT:=trOK_of e.1;refine ⟨hT,by simp,fun S hS=>?_⟩;obtain ⟨k,hk,rfl⟩:=List.mem_map.1 hS;obtain ⟨q,hx,hy⟩:=lrM_room hT (rgG_yes e.2).1 (rgG_yes e.2).2 (List.mem_range.1 hk);obtain ⟨q1,q2⟩:=rqW_iff.1 q;unfold Lw;omega
 ·simp at h
def inR (S T:Re):Bool:=insB S.x S.y S.u S.v T.x T.y T.u T.v
def clF (L:List Nd) (M:List Re) (i:Nat):Bool:=decide (0<i)&&!inR (rcN M (paX L i)) (rcN M i)
section
attribute [local go_sem] Oper.semAt_some
attribute [local go_sem] givesUpon_value givesUpon_skip givesUpon_enter
def hitRe (S T:Re):Bool:=hitB S.x S.y S.u S.v T.x T.y T.u T.v
def meetRe (S T:Re):Re:=⟨mx S.x T.x,mx S.y T.y,mn (S.x+S.u) (T.x+T.u)-mx S.x T.x,mn (S.y+S.v) (T.y+T.v)-mx S.y T.y⟩
def metRe (S T:Re):Re:=if hitRe S T=true then meetRe S T else ⟨0,0,0,0⟩
theorem hitRe_self (S:Re):hitRe S S=(decide (0<S.u)&&decide (0<S.v)):=by
 unfold hitRe;rw [Bool.eq_iff_iff,hitB_iff,Bool.and_eq_true,decide_eq_true_eq,decide_eq_true_eq]
 have:=mx_spec S.x S.x;have:=mx_spec S.y S.y;have:=mn_spec (S.x+S.u) (S.x+S.u);have:=mn_spec (S.y+S.v) (S.y+S.v)
 omega
theorem meetRe_self (S:Re):meetRe S S=S:=by
 have:=mx_spec S.x S.x;have:=mx_spec S.y S.y;have:=mn_spec (S.x+S.u) (S.x+S.u);have:=mn_spec (S.y+S.v) (S.y+S.v)
 obtain ⟨x,y,u,v⟩:=S;simp only [meetRe,Re.mk.injEq] at *;omega
def LwR (S:Re):Prop:=Lw S.x S.y S.u S.v
theorem LwR.meet {S T:Re} (h:LwR S) (k:LwR T) (e:hitRe S T=true):LwR (meetRe S T):=Lw.meet h k e
theorem meet_v (S T:Re) (w:World) (h:LwR S) (k:LwR T):Calls Tryz.prog 69 #[.agg (valsRe S).toArray,.agg (valsRe T).toArray] w fun e w'=>e=.returned (.tuple #[.agg (valsRe (metRe S T)).toArray,.bool (hitRe S T)])∧Below w.heap.size w w':=by
 unfold metRe
 cases e:hitRe S T
 ·exact meet_nol _ _ _ _ _ _ _ _ w h k e
 ·exact meet_yesl _ _ _ _ _ _ _ _ w h k e
theorem smeet_v (S T:Re) (w:World) (h:LwR S) (k:LwR T):Calls Tryz.prog 52 #[.agg (valsRe S).toArray,.agg (valsRe T).toArray] w fun e w'=>e=.returned (.tuple #[.agg (valsRe (metRe S T)).toArray,.bool (hitRe S T)])∧Below w.heap.size w w':=by
 unfold metRe
 cases e:hitRe S T
 ·exact smeet_nol _ _ _ _ _ _ _ _ w h k e
 ·exact smeet_yesl _ _ _ _ _ _ _ _ w h k e
def seL (M:List Re):Re→List Nat→Option Re
 | S,[]=>some S
 | S,k :: ks=>if hitRe S (rcN M k)=true then seL M (meetRe S (rcN M k)) ks else none
theorem seL_snoc (M:List Re):∀ (ks:List Nat) (S:Re) (k:Nat),seL M S (ks ++ [k])=(seL M S ks).bind fun T=>if hitRe T (rcN M k)=true then some (meetRe T (rcN M k)) else none
 | [],S,k=>rfl
 | j :: ks,S,k=>by
  simp only [List.cons_append,seL]
  split
  ·exact seL_snoc M ks _ k
  ·rfl
theorem seL_none {M:List Re}:∀ {pre rest:List Nat} {S:Re},seL M S pre=none→seL M S (pre ++ rest)=none
 | [],_,_,h=>by cases h
 | k :: pre,rest,S,h=>by
  simp only [List.cons_append,seL] at *
  split
  ·rename_i e;rw [if_pos e] at h;exact seL_none h
  ·rfl
theorem rcN_lw {M:List Re} (h:∀ S∈M,LwR S) {k:Nat} (hk:k<M.length):LwR (rcN M k):=by
 have e:=List.getElem?_eq_getElem hk;rw [rcN_at e];exact h _ (List.getElem_mem hk)
theorem reB_at {w:World} {g i:Nat} {M:List Re} (h:ReB w g M) (hi:i<M.length):w.rangeAt g (i*4) (valsRe (rcN M i)):=by
 have e:=List.getElem?_eq_getElem hi;rw [rcN_at e];obtain ⟨cs,hh,hs,hc⟩:=h
 exact fun j v hj=>(cellS hh _).trans (hc i _ e j v hj)
def upC {n:Nat} (x:{k:Nat // k<n}):Int:=(x.1:Int)
theorem up1_k (F:Fence) (n:Nat) (hF:F.fn 104) (hro:F.round=none) (hn:1≤n) (l Bi Bt b off len c:Nat) (R:List Nr) (i:Int) (xs:List {k:Nat // k<R.length}) (hlen:len=R.length) (hL:R.length≤1048576) (hup:IsUp (R.map Nr.n) i (xs.map upC)) (J Jx:List {k:Nat // k<R.length}→World→Prop)
  (hY:∀ pre x W,J pre W→pre.length<xs.length→YieldAt F (n-1) Tryz.prog l #[.int .i64 (x.1:Int)] W fun e W' =>
   (e=.returned (.bool true)∧J (pre ++ [x]) W'∧KU Bi Bt b W W')∨(e=.returned (.bool false)∧Jx (pre ++ [x]) W'))
  (W:World) (hu:UpAt W Bi Bt b off len c i R) (h0:J [] W) :
  CallsIn F n Tryz.prog 104 #[.func (.yield l) #[] #[],.pointer (some ⟨Bi,0,none⟩),.pointer (some ⟨Bt,0,none⟩)] W fun e W'=>(∃ v,e=.returned v) ∧
   ((∃ ys,ys=xs∧J ys W')∨(∃ pre,(∃ rest,xs=pre ++ rest)∧Jx pre W')):=by
 have hci:=hu.hi;have HU:=Lib.hid hu;have HUP:=Lib.hid hup;clear hu hup;refine callsIn_of_wp Tryz.func104 rfl hF ?_ hro;simp only [Tryz.ntmps104,List.size_toArray,List.length_cons,List.length_nil,Nat.reduceAdd,Nat.reduceSub,Array.replicate_succ,Array.replicate_zero,List.push_toArray,List.append_toArray,List.nil_append,List.cons_append]
 gi_wp2
 clear hci
 gi_loopw [4] (fun p wr=>∃ (pre rest:List {k:Nat // k<R.length}) (q:Int),p=.int .i64 q∧xs=pre ++ rest∧IsUp (R.map Nr.n) q (rest.map upC)∧KU Bi Bt b W wr∧J pre wr) (fun p _=>(intOf p+1).toNat)
 case atStart=>exact ⟨[],xs,i,rfl,rfl,HUP.out,⟨rfl,rfl,rfl⟩,h0⟩
 case round =>
  obtain ⟨pre,rest,q,rfl,hx,hl,hK,hJs⟩:=hrel
  cases rest with
  | nil =>
   obtain rfl:q=-1:=hl;have HXX:=Lib.hid hx;clear hx
   gi_wp2
   go_end0
   exact ⟨⟨_,rfl⟩,.inl ⟨pre,by have:=HXX.out;simp at this;exact this.symm,hJs⟩⟩
  | cons x rest =>
   obtain ⟨xk,hxk⟩:=x;obtain ⟨eq,h0q,nd,hnd,hlt,hge,hr⟩:=hl
   change (xk:Int)=q at eq
   subst eq;have hk0:=hxk;generalize xk=k at *;rw [Int.toNat_natCast,List.getElem?_map] at hnd;obtain ⟨p,hp,rfl⟩:=Option.map_eq_some_iff.1 hnd;have hkl:k<R.length:=(List.getElem?_eq_some_iff.1 hp).1
   have hkl':(k:Int)<(len:Int):=by omega
   have hne:(((k:Nat):Int) != -1)=true:=by rw [bne_iff_ne];omega
   have hlx:pre.length<xs.length:=by rw [hx];simp
   obtain ⟨fn,tmps,assign,body,hy,hR⟩:=hY pre ⟨k,hxk⟩ wr hJs hlx;have HXX:=Lib.hid hx;have HP:=Lib.hid hp;have HK:=Lib.hid hK;have HRR:=Lib.hid hr
   obtain ⟨z,hz⟩:∃ z,p.n.pa=z:=⟨_,rfl⟩
   have HZ:=Lib.hid hz;rw [hz] at hlt hge;clear hx hp hK hr hnd hz
   gi_wp2
   refine hR.mono ?_;rintro e W3 (⟨rfl,hJ3,hk3⟩ | ⟨rfl,hJx3⟩)
   ·have hu3:=(HU.out.keep HK.out).keep hk3;have ct:=hu3.ht;have cp:W3.cell? ⟨b,off+k*34,none⟩=some (.int .i64 p.n.pa):=hu3.hn k p HP.out 0 _ rfl;rw [HZ.out] at cp;have HK3:=Lib.hid (KU.trans HK.out hk3);clear hu3 hk3
    gi_wp2
    go_roundw
    case rel=>exact ⟨pre ++ [⟨k,hxk⟩],rest,z,rfl,by rw [HXX.out];simp,by have:=HRR.out;rwa [HZ.out] at this,HK3.out,hJ3⟩
    case measure=>simp [intOf];omega
   ·gi_wp2
    refine bodyPost_ret (results_none rfl _ _ _) rfl ?_;exact ⟨⟨_,rfl⟩,.inr ⟨_,⟨rest,by rw [HXX.out];simp⟩,hJx3⟩⟩
theorem up_stopk (F:Fence) (n:Nat) (hF:F.fn 104) (hro:F.round=none) (hn:1≤n) (Bi Bt b off len c:Nat) (R:List Nr) (i:Int) (xs:List {k:Nat // k<R.length}) (hlen:len=R.length) (hL:R.length≤1048576) (hup:IsUp (R.map Nr.n) i (xs.map upC)) (w:World) (hBi:Bi<w.heap.size) (hBt:Bt<w.heap.size) (hb:b<w.heap.size) (hu:UpAt w Bi Bt b off len c i R) :
  SeqStopsK F n Tryz.prog 104 #[.pointer (some ⟨Bi,0,none⟩),.pointer (some ⟨Bt,0,none⟩)] (fun x:{k:Nat // k<R.length}=>#[Value.int .i64 (x.1:Int)]) (KU Bi Bt b) (fun ys=>ys=xs) (fun pre=>∃ rest,xs=pre ++ rest) xs.length w:=fun l J Jx W hW _ _ hY h0 =>
 up1_k F n hF hro hn l Bi Bt b off len c R i xs hlen hL hup J Jx hY W (hu.keep (KU.of hW hBi hBt hb)) h0
def zRe:Array Value:=#[.int .i64 0,.int .i64 0,.int .i64 0,.int .i64 0]
structure SeW (w:World) (A:Option Addr) (c n g:Nat) (S:Re) (W:World):Prop where
 t:W.heap[w.heap.size]?=some (.cells #[.slice A n c] 30 (0,0))
 r:W.heap[w.heap.size+1]?=some (.cells #[.slice (some ⟨g,0,none⟩) n n] 51 (0,0))
 p:W.heap[w.heap.size+1+1]?=some (.cells zRe 38 (0,0))
 q:W.heap[w.heap.size+1+1+1]?=some (.cells #[.bool false] 4 (0,0))
 s:W.heap[w.heap.size+1+1+1+1]?=some (.cells (valsRe S).toArray 38 (0,0))
 l:Below w.heap.size w W
 z:w.heap.size+7≤W.heap.size
def seVal:Option Re→Value
 | none=>.tuple #[.agg zRe,.bool false]
 | some S=>.tuple #[.agg (valsRe S).toArray,.bool true]
def AlV (n0:Nat) (w:World) (v:Value):Prop:=∃ g:Nat,v=.pointer (some ⟨g,0,none⟩)∧n0≤g∧w.heap[g]?=some (.cells zRe 38 (0,0))
theorem AlV.keep {n0:Nat} {w w':World} {v:Value} (h:AlV n0 w v) (hb:Below w.heap.size w w'):AlV n0 w' v:=let ⟨g,e,hl,hc⟩:=h;⟨g,e,hl,(hb.block g (ltS hc)).trans hc⟩
structure SeX (w:World) (W:World):Prop where
 p:W.heap[w.heap.size+1+1]?=some (.cells zRe 38 (0,0))
 q:W.heap[w.heap.size+1+1+1]?=some (.cells #[.bool false] 4 (0,0))
 l:Below w.heap.size w W
 z:w.heap.size+7≤W.heap.size
theorem SeX.grown {w X Y:World} {row:Option Nat} (h:SeX w X) (hg:X.grownBy Y row) (hr:∀ k,row=some k→w.heap.size+7≤k):SeX w Y :=
 have hz:=h.z
 have f:∀ k,k<w.heap.size+7→Y.heap[k]?=X.heap[k]?:=fun k hk=>hg.block k (by omega) (fun e=>by have:=hr k e.symm;omega)
 ⟨(f _ (by omega)).trans h.p,(f _ (by omega)).trans h.q,h.l.grown hg h.l.size (fun k e=>by have:=hr k e;omega),Nat.le_trans hz hg.size⟩
theorem SeW.grown {w X Y:World} {A:Option Addr} {c n g:Nat} {S:Re} {row:Option Nat} (h:SeW w A c n g S X) (hg:X.grownBy Y row) (hr:∀ k,row=some k→w.heap.size+7≤k):SeW w A c n g S Y :=
 have hz:=h.z
 have f:∀ k,k<w.heap.size+7→Y.heap[k]?=X.heap[k]?:=fun k hk=>hg.block k (by omega) (fun e=>by have:=hr k e.symm;omega)
 ⟨(f _ (by omega)).trans h.t,(f _ (by omega)).trans h.r,(f _ (by omega)).trans h.p,(f _ (by omega)).trans h.q,(f _ (by omega)).trans h.s,h.l.grown hg h.l.size (fun k e=>by have:=hr k e;omega),Nat.le_trans hz hg.size⟩
theorem SeW.below {w X Y:World} {A:Option Addr} {c n g:Nat} {S:Re} (h:SeW w A c n g S X) (hb:Below X.heap.size X Y):SeW w A c n g S Y :=
 have hz:=h.z
 have f:∀ k,k<w.heap.size+7→Y.heap[k]?=X.heap[k]?:=fun k hk=>hb.block k (by omega)
 ⟨(f _ (by omega)).trans h.t,(f _ (by omega)).trans h.r,(f _ (by omega)).trans h.p,(f _ (by omega)).trans h.q,(f _ (by omega)).trans h.s,bkeep2 h.l hb,Nat.le_trans hz hb.size⟩
theorem stR {ops:Array Oper} {rest:List Oper} {op:Oper} {a:Act} {w:World} {Q:Exit→Act→World→Prop} (x y:Operand) (S:Re) (b:Nat) {cs:Array Value} (hgd:op.guard=none) (ho:op.op=.store 38 x y) (hp:w.heap[b]?=some (.cells cs 38 (0,0))) (hs:cs.size=4) (hx:a.eval x=.pointer (some ⟨b,0,none⟩)) (hy:a.eval y=.agg (valsRe S).toArray)
  (h:wpList Tryz.prog ops Q rest (a.put op.dst undef) (w.setCells b 0 (valsRe S))):wpList Tryz.prog ops Q (op :: rest) a w :=
 stK 38 x y (valsRe S) b 0 hgd ho (thereB hp (by rw [hs];exact Nat.le_refl _)) (by kernel_rfl) (valsRe_one S) hx hy h
theorem stRI {F:Fence} {n:Nat} {ops:Array Oper} {rest:List Oper} {op:Oper} {a:Act} {w:World} {Q:Exit→Act→World→Prop} (x y:Operand) (S:Re) (b:Nat) {cs:Array Value} (hgd:op.guard=none) (ho:op.op=.store 38 x y) (hp:w.heap[b]?=some (.cells cs 38 (0,0))) (hs:cs.size=4) (hx:a.eval x=.pointer (some ⟨b,0,none⟩)) (hy:a.eval y=.agg (valsRe S).toArray)
  (h:wpListIn F n Tryz.prog ops Q rest (a.put op.dst undef) (w.setCells b 0 (valsRe S))):wpListIn F n Tryz.prog ops Q (op :: rest) a w:=by
 refine wpListIn_plain hgd fun K hK=>⟨fun f hf=>?_,?_⟩
 ·simp [Oper.about,ho] at hf
 ·rw [Oper.semAt_eq _ _ _ (fun c e=>by rw [ho] at e;cases e)];unfold execOp;have hst:=run_storeAt_mid (P:=Tryz.prog) w b 0 38 (valsRe S).toArray (show w.there b 0 4 from thereB hp (by rw [hs];exact Nat.le_refl _)) (by kernel_rfl) (all_oneCell_toArray (valsRe_one S));simp only [ho,hx,hy,Sem.run_bind,Sem.run_pure,Result.andThen_ok,hst];exact hK _ _ h
section
variable {P:Program}
theorem wpIn_named {F:Fence} {n:Nat} {c:Code} {Q:Exit→Act→World→Prop} {a:Act} {w:World} (h:∀ W0,W0=w→c.wpIn F n P Q a w):c.wpIn F n P Q a w:=h w rfl
theorem onlyN_noPan {K:Act→World→Prop}:OnlyN (NoPan (Exit.then K (fun _ _ _=>False))):=fun e a w h q=>by
 cases e <;> first | exact h rfl | exact q
theorem wpIn_region_grow {l0 n id:Nat} {Q:Exit→Act→World→Prop} {a:Act} {w:World} {l:List Oper} (m g:Nat) (pre:Nat→Bool) (hm:P.follows .mixedOrders=true) (hd:l.toArray.all noDef=true) (hB:growB l.toArray m pre=true) (hg:l.length=g+m)
  (h:wpG P l.toArray w.drew (fun a'=>wpK P .any l.toArray (NoPan (Exit.then (fun a w=>Q .normal a w) (fun _ _ _=>False))) pre g (listedTo m 0 (Array.replicate l.toArray.size false)) a' w.drew) (l.take m) a):(Code.region id l.toArray true).wpIn (Fence.wide.inRound l0) n P Q a w:=by
 simp only [growB,Bool.and_eq_true,decide_eq_true_eq] at hB;obtain ⟨⟨⟨hs,hT⟩,hgs⟩,hle⟩:=hB
 have hle':m≤l.length:=by simpa using hle
 refine wpIn_region_any hm (anyLift (Q0:=NoPan (Exit.then (fun a w=>Q .normal a w) (fun _ _ _=>False))) (Q:=Q) hd onlyN_noPan (fun _ _ h=>h) _ _ _ _ (wpAny_of_K (pre:=pre) _ _ _ _ ?_))
 have:=wpG_text (md:=.any) (w:=w.drew) (Q:=NoPan (Exit.then (fun a w=>Q .normal a w) (fun _ _ _=>False))) hs (fun c a w h=>h) hT g m 0 (l.take m) _ a (by simp;omega) (fun j hj=>by simp [hj]) (Shutl.none _) hgs h
 have e:g+m=l.toArray.size:=by simp;omega
 rw [e] at this;exact this
end
theorem seenPart_v (A:Option Addr) (c:Nat) (R:List Nr) (M:List Re) (g i:Nat) (xs:List {k:Nat // k<R.length}) (w:World) (hT:TrOK (R.map Nr.n)) (h:NrV w A R) (hM:ReB w g M) (hMR:M.length=R.length) (hL:∀ S∈M,LwR S) (hi:i<R.length) (hup:IsUp (R.map Nr.n) (i:Int) (xs.map upC)) :
  Calls Tryz.prog 42 #[.agg #[.slice A R.length c],.slice (some ⟨g,0,none⟩) R.length R.length,.int .i64 (i:Int)] w fun e w'=>e=.returned (seVal (seL M (rcN M i) (xs.map Subtype.val)))∧Below w.heap.size w w':=by
 obtain ⟨b,off,rfl,hb,hps⟩:=h.cells (by omega);have HPS:=Lib.hid hps;have HM:=Lib.hid hM;have HMR:=Lib.hid hMR;have HUP:=Lib.hid hup
 have HRG:=Lib.hid (show ((((w.alloc (.cells #[.slice (some ⟨b,off,none⟩) R.length c] 30)).alloc (.cells #[.slice (some ⟨g,0,none⟩) R.length R.length] 51)).alloc (.cells zRe 38)).alloc (.cells #[.bool false] 4)).rangeAt g (i*4) (valsRe (rcN M i)) from
  reB_at ((((hM.keep (balloc (Below.refl _ _))).keep (balloc (Below.refl _ _))).keep (balloc (Below.refl _ _))).keep (balloc (Below.refl _ _))) (by omega))
 have hdi:(i:Int)<(R.length:Int):=by omega
 clear hps h hM hMR hup;refine (callsIn_wide (n:=6)).1 ?_;refine callsIn_of_wp_marks Tryz.func42 rfl trivial ?_ rfl;simp only [Tryz.ntmps42,List.size_toArray,List.length_cons,List.length_nil,Nat.reduceAdd,Nat.reduceSub,Array.replicate_succ,Array.replicate_zero,List.push_toArray,List.append_toArray,List.nil_append,List.cons_append]
 gi_wp2_with (first|(refine ldNI 38 _ [.int .i64 (rcN M i).x,.int .i64 (rcN M i).y,.int .i64 (rcN M i).u,.int .i64 (rcN M i).v] g (i*4) rfl rfl rfl HRG.out Tryz.underlying38 rfl (by kernel_rfl) ?_)|(refine ⟨trivial,?_⟩;gi_at_call 68;refine (callsIn_wide.2 (upFrom_v _ _ _ _ _)).mono ?_;rintro e w' ⟨rfl,rfl⟩))
 obtain ⟨W0,hW0,s0,hu0⟩:∃ W0,(((((((w.alloc (.cells #[.slice (some ⟨b,off,none⟩) R.length c] 30)).alloc (.cells #[.slice (some ⟨g,0,none⟩) R.length R.length] 51)).alloc (.cells zRe 38)).alloc (.cells #[.bool false] 4)).alloc (.cells (valsRe (rcN M i)).toArray 38)).alloc (.cells #[.slice (some ⟨b,off,none⟩) R.length c] 30)).alloc (.cells #[.int .i64 (i:Int)] 3))=W0∧SeW w (some ⟨b,off,none⟩) c R.length g (rcN M i) W0∧(W0.heap.size=w.heap.size+7∧UpAt W0 (w.heap.size+1+1+1+1+1+1) (w.heap.size+1+1+1+1+1) b off R.length c (i:Int) R):=by
  refine ⟨_,rfl,?_⟩;obtain ⟨W4,e4,n1,n2,n3,n4,hz,hb4⟩:=four w (.cells #[.slice (some ⟨b,off,none⟩) R.length c] 30) (.cells #[.slice (some ⟨g,0,none⟩) R.length R.length] 51) (.cells zRe 38) (.cells #[.bool false] 4);rw [e4]
  obtain ⟨W5,e5⟩:∃ W5,W4.alloc (.cells (valsRe (rcN M i)).toArray 38)=W5:=⟨_,rfl⟩
  obtain ⟨W6,e6⟩:∃ W6,W5.alloc (.cells #[.slice (some ⟨b,off,none⟩) R.length c] 30)=W6:=⟨_,rfl⟩
  obtain ⟨W7,e7⟩:∃ W7,W6.alloc (.cells #[.int .i64 (i:Int)] 3)=W7:=⟨_,rfl⟩
  have n5:=World.alloc_heap_new W4 (.cells (valsRe (rcN M i)).toArray 38);have n6:=World.alloc_heap_new W5 (.cells #[.slice (some ⟨b,off,none⟩) R.length c] 30);have n7:=World.alloc_heap_new W6 (.cells #[.int .i64 (i:Int)] 3)
  have z5:W5.heap.size=w.heap.size+5:=by rw [<- e5,World.size_alloc,hz]
  have z6:W6.heap.size=w.heap.size+6:=by rw [<- e6,World.size_alloc,z5]
  have z7:W7.heap.size=w.heap.size+7:=by rw [<- e7,World.size_alloc,z6]
  have b5:Below W4.heap.size W4 W5:=by rw [<- e5];exact balloc (Below.refl _ _)
  have b6:Below W5.heap.size W5 W6:=by rw [<- e6];exact balloc (Below.refl _ _)
  have b7:Below W6.heap.size W6 W7:=by rw [<- e7];exact balloc (Below.refl _ _)
  rw [e5] at n5;rw [e6] at n6;rw [e7] at n7;rw [hz] at n5;rw [z5] at n6;rw [z6] at n7;rw [e5,e6,e7];have l7:Below w.heap.size w W7:=bkeep2 (bkeep2 (bkeep2 hb4 b5) b6) b7
  have up:∀ k,k<w.heap.size+4→W7.heap[k]?=W4.heap[k]?:=fun k hk=>(b7.block k (by omega)).trans ((b6.block k (by omega)).trans (b5.block k (by omega)))
  refine ⟨⟨(up _ (by omega)).trans n1,(up _ (by omega)).trans n2,(up _ (by omega)).trans n3,(up _ (by omega)).trans n4,(b7.block _ (by omega)).trans ((b6.block _ (by omega)).trans n5),l7,by omega⟩,z7,?_⟩;exact ⟨cellS n7 0,cellS ((b7.block _ (by omega)).trans n6) 0,fun k p hp=>rangeB (HPS.out k p hp) (l7.block b hb)⟩
 rw [show (#[Value.int .i64 (rcN M i).x,.int .i64 (rcN M i).y,.int .i64 (rcN M i).u,.int .i64 (rcN M i).v]:Array Value)=(valsRe (rcN M i)).toArray from rfl]
 change Code.wpIn Fence.wide 6 Tryz.prog _ _ _ (((((((w.alloc (.cells #[.slice (some ⟨b,off,none⟩) R.length c] 30)).alloc (.cells #[.slice (some ⟨g,0,none⟩) R.length R.length] 51)).alloc (.cells zRe 38)).alloc (.cells #[.bool false] 4)).alloc (.cells (valsRe (rcN M i)).toArray 38)).alloc (.cells #[.slice (some ⟨b,off,none⟩) R.length c] 30)).alloc (.cells #[.int .i64 (i:Int)] 3))
 rw [hW0];clear hW0 HRG;obtain ⟨hz0,hu0⟩:=hu0;have hL0:LwR (rcN M i):=rcN_lw hL (by rw [HMR.out];exact hi);have hlg:g<w.heap.size:=HM.out.lt;have HUT:=Lib.hid hu0
 refine wpIn_rangeFunc_ownG rfl (by omega) (gf:=104) (lb:=#[.pointer (some ⟨w.heap.size+1+1+1+1+1+1,0,none⟩),.pointer (some ⟨w.heap.size+1+1+1+1+1,0,none⟩)]) rfl trivial (enters_of Tryz.func104 (by kernel_rfl) rfl)
  (up_stopk Fence.wide _ trivial rfl (by omega) (w.heap.size+1+1+1+1+1+1) (w.heap.size+1+1+1+1+1) b off R.length c R (i:Int) xs rfl (by have:=hT.l10;rw [List.length_map] at this;omega) HUP.out W0 (by omega) (by omega) (by omega) hu0) KU.trans
  (fun W l o o' hl ho hc hw=>⟨World.putObj_heap_other (by omega),World.putObj_heap_other (by omega),World.putObj_heap_other (by omega)⟩) (Below.refl _ _) (fun _=>rfl)
  (fun pre W=>∃ S,seL M (rcN M i) (pre.map Subtype.val)=some S∧LwR S∧SeW w (some ⟨b,off,none⟩) c R.length g S W)
  (fun c' pre W=>c'=.ret∧seL M (rcN M i) (pre.map Subtype.val)=none∧SeX w W)
  (fun pre X Y row hs hg hr=>let ⟨S,h1,h2,h3⟩:=hs;⟨S,h1,h2,h3.grown hg fun k e=>by have:=(hr k e).1;omega⟩)
  (fun c' pre X Y row hs hg hr=>⟨hs.1,hs.2.1,hs.2.2.grown hg fun k e=>by have:=(hr k e).1;omega⟩)
  ⟨_,rfl,hL0,s0⟩
  (fun x=>{ tmps:=#[.agg #[.slice (some ⟨b,off,none⟩) R.length c],.slice (some ⟨g,0,none⟩) R.length R.length,.int .i64 (i:Int),.pointer (some ⟨w.heap.size,0,none⟩),.pointer (some ⟨w.heap.size+1,0,none⟩),undef,.pointer (some ⟨w.heap.size+1+1,0,none⟩),.pointer (some ⟨w.heap.size+1+1+1,0,none⟩),.pointer (some ⟨w.heap.size+1+1+1+1,0,none⟩),.int .i64 (x.1:Int),undef,undef,.slice (some ⟨g,0,none⟩) R.length R.length,.int .i64 (i:Int),.pointer (some ⟨g,i*4,none⟩),.agg (valsRe (rcN M i)).toArray,.agg #[.slice (some ⟨b,off,none⟩) R.length c],.int .i64 (i:Int),.func (.func 104) #[] #[.pointer (some ⟨w.heap.size+1+1+1+1+1+1,0,none⟩),.pointer (some ⟨w.heap.size+1+1+1+1+1,0,none⟩)],.int .i64 (x.1:Int),undef,undef,undef,undef,undef,undef,undef,undef,undef,undef,undef,undef,undef,undef],defers:=[] }) ?assign ?body ?done ?stop
 case assign =>
  intro l x W K hK
  gi_wp2
  exact hK
 case body =>
  rintro l pre x W ⟨S,hse,hLS,hs⟩ hlt;obtain ⟨k,hk⟩:=x;have hLk:LwR (rcN M k):=rcN_lw hL (by rw [HMR.out];exact hk);have HS:=Lib.hid hs;have HSE:=Lib.hid hse;have HLS:=Lib.hid (And.intro hLS hLk)
  have hdk:(k:Int)<(R.length:Int):=by omega
  have hwz:=hs.z;have xr:=cellS hs.r 0;have HRS:=Lib.hid (show W.rangeAt (w.heap.size+1+1+1+1) 0 (valsRe S) from fun j v hj=>by rw [Nat.zero_add];exact (cellS hs.s j).trans (by simpa using hj));have HRK:=Lib.hid (reB_at (HM.out.keep hs.l) (i:=k) (by rw [HMR.out];exact hk))
  have lg2:g<W.heap.size:=by omega
  have lr2:w.heap.size+1<W.heap.size:=by omega
  have ls2:w.heap.size+1+1+1+1<W.heap.size:=by omega
  clear hs hse hLS hLk;refine wpIn_block ?_
  refine wpIn_seq_k fun K1 hK1=>?_
  obtain ⟨s0,s1,s2,s3⟩:(W.cell? ⟨w.heap.size+1+1+1+1,0,none⟩=some (.int .i64 S.x)∧W.cell? ⟨w.heap.size+1+1+1+1,1,none⟩=some (.int .i64 S.y)∧W.cell? ⟨w.heap.size+1+1+1+1,2,none⟩=some (.int .i64 S.u)∧W.cell? ⟨w.heap.size+1+1+1+1,3,none⟩=some (.int .i64 S.v)):=⟨cellS HS.out.s 0,cellS HS.out.s 1,cellS HS.out.s 2,cellS HS.out.s 3⟩
  obtain ⟨T,hTk⟩:∃ T,rcN M k=T:=⟨_,rfl⟩
  have HTK:=Lib.hid hTk;rw [hTk] at HRK HLS
  obtain ⟨d0,d1,d2,d3⟩:(W.cell? ⟨g,k*4,none⟩=some (.int .i64 T.x)∧W.cell? ⟨g,k*4+1,none⟩=some (.int .i64 T.y)∧W.cell? ⟨g,k*4+2,none⟩=some (.int .i64 T.u)∧W.cell? ⟨g,k*4+3,none⟩=some (.int .i64 T.v)):=⟨HRK.out 0 _ rfl,HRK.out 1 _ rfl,HRK.out 2 _ rfl,HRK.out 3 _ rfl⟩
  obtain ⟨Z,hZ⟩:∃ Z,metRe S T=Z:=⟨_,rfl⟩
  obtain ⟨q,hq⟩:∃ q,hitRe S T=q:=⟨_,rfl⟩
  have HCA:Hid (∀ W':World,Calls Tryz.prog 69 #[.agg #[.int .i64 (S.x),.int .i64 (S.y),.int .i64 (S.u),.int .i64 (S.v)],.agg #[.int .i64 (T.x),.int .i64 (T.y),.int .i64 (T.u),.int .i64 (T.v)]] W' fun e w'=>e=.returned (.tuple #[.agg #[.int .i64 (Z.x),.int .i64 (Z.y),.int .i64 (Z.u),.int .i64 (Z.v)],.bool q])∧Below W'.heap.size W' w'):=Lib.hid fun W'=>by
   have:=meet_v S T W' HLS.out.1 HLS.out.2
   rw [hZ,hq] at this;exact this
  have HZ:=Lib.hid hZ;have HQ:=Lib.hid hq;clear hTk hZ hq HRS HRK;refine wpIn_named (fun W1 e1=>?_);replace e1:=Lib.hid e1;refine wpIn_region_grow 9 3 (fun i=>decide (i<10)&&i != 8) (by kernel_rfl) (by kernel_rfl) (by kernel_rfl) rfl ?_
  iterate 9 (refine wpG_step (fun K hK=>?_);apply Exists.intro;refine ⟨.inl ⟨rfl,fun w' hw'=>?_⟩,?_⟩;(focus ((obtain ⟨hc,hf⟩:=bcell hw'.out);(have hcS:=bcellS hw'.out);go_simp <;> first | rfl|(go_at_call 69;exact HCA.out _)));(go_simp;refine hK _ ?_;clear hK K))
  refine wpG_nil ?_;refine wpK_one (i:=9) (by kernel_rfl) rfl rfl (by kernel_rfl) (fun w1_0 h1_0=>?_);go_simp;refine ⟨Gr.alloc _ _,?_⟩;refine wpK_tail (by kernel_rfl) (fun w1_9 h1_9=>?_);obtain ⟨hc1_9,hf1_9⟩:=bcell h1_9.out;refine wpAny_one (i:=10) (by kernel_rfl) rfl rfl ?_;go_simp;refine wpAny_one (i:=11) (by kernel_rfl) rfl rfl ?_;go_simp;refine wpAny_end (by kernel_rfl) ?_
  have s1_a:W1.heap.size≤w1_9.heap.size:=by rw [e1.out];exact Nat.le_trans h1_0.out.size (Nat.le_trans (by simp) h1_9.out.size)
  have s1_b:W1.heap.size≤w1_0.heap.size:=by rw [e1.out];exact h1_0.out.size
  have s1_c:w1_0.heap.size<w1_9.heap.size:=by have:=h1_9.out.size;simp at this;omega
  have b1_a:Below W1.heap.size W1 w1_9:=by rw [e1.out];exact bgrow (balloc (bgrow (Below.refl _ _).drew h1_0)) h1_9
  refine NoPan.gen (fun wf=>Below W1.heap.size W1 wf∧W1.heap.size≤w1_0.heap.size∧w1_0.heap.size<wf.heap.size∧wf.cell? ⟨w1_0.heap.size,0,none⟩=some (.int .i64 Z.x)∧wf.frozen? ⟨w1_0.heap.size,0,none⟩=false∧wf.cell? ⟨w1_0.heap.size,1,none⟩=some (.int .i64 Z.y)∧wf.frozen? ⟨w1_0.heap.size,1,none⟩=false∧wf.cell? ⟨w1_0.heap.size,2,none⟩=some (.int .i64 Z.u)∧wf.frozen? ⟨w1_0.heap.size,2,none⟩=false∧wf.cell? ⟨w1_0.heap.size,3,none⟩=some (.int .i64 Z.v)∧wf.frozen? ⟨w1_0.heap.size,3,none⟩=false) ?_ (fun wf1 hwf1=>?_)
  ·refine ⟨by repeat (first | exact b1_a|(refine bset ?_ ?_;rotate_left;((try dsimp only);omega))),?_⟩;refine ⟨s1_b,?_⟩;refine ⟨by simp;omega,?_⟩;go_simp
  generalize hgb1:w1_0.heap.size=b1 at *;have E:=e1.out;subst E;obtain ⟨hB1,hl1,hu1,c1_0,f1_0,c1_1,f1_1,c1_2,f1_2,c1_3,f1_3⟩:=hwf1
  try simp only [World.size_alloc] at hl1
  clear hgb1 e1 hc1_9 hf1_9 s1_a s1_b s1_c b1_a h1_9 w1_9 h1_0 w1_0;obtain ⟨hc1,hf1⟩:=bcell hB1;clear hc1 hf1 s0 s1 s2 s3 d0 d1 d2 d3 xr HCA
  have hz1:(wf1.heap[b1]?).isSome=true→True:=fun _=>trivial
  have HB6:=Lib.hid hB1;have hs6:W1.heap.size≤wf1.heap.size:=hB1.size;have HS6:=Lib.hid (HS.out.below hB1);clear hz1 hB1;refine hK1 _ _ ?_;clear hK1 K1
  refine wpIn_seq_k fun K2 hK2=>?_
  refine wpIn_seq_k fun K3 hK3=>?_
  refine wpIn_region_lift (by kernel_rfl) ?_
  cases q
  ·go_wp2;refine wpIn_cond_true rfl ?_
   refine wpIn_seq_k fun K4 hK4=>?_
   refine wpIn_region_lift (by kernel_rfl) ?_;have hq1:(wf1.setCells (w.heap.size+1+1) 0 (valsRe ⟨0,0,0,0⟩)).heap[w.heap.size+1+1+1]?=some (.cells #[.bool false] 4 (0,0)):=(heap_setCells_ne (by omega) _ _ _).trans HS6.out.q
   have hp1:(wf1.setCells (w.heap.size+1+1) 0 (valsRe ⟨0,0,0,0⟩)).heap[w.heap.size+1+1]?=some (.cells zRe 38 (0,0)):=by rw [heap_setCells _ _ _ _ HS6.out.p,wrAt_all (by rfl)];rfl
   have q0:=cellS hq1 0;have fq0:=frozenS hq1 0;have HQ1:=Lib.hid hq1;have HP1:=Lib.hid hp1;have hKF:KeepsFrom W0.heap.size W1 (wf1.setCells (w.heap.size+1+1) 0 (valsRe ⟨0,0,0,0⟩)):=(keepsFrom_below HB6.out).trans (keepsFrom_setCells _ _ _);have HKF:=Lib.hid hKF;have hBP:Below w.heap.size w (wf1.setCells (w.heap.size+1+1) 0 (valsRe ⟨0,0,0,0⟩)):=below_setCells (by omega) _ _ _ HS6.out.l
   have HBP:=Lib.hid hBP;have hzp:(wf1.setCells (w.heap.size+1+1) 0 (valsRe ⟨0,0,0,0⟩)).heap.size=wf1.heap.size:=size_setCellsT _ _ _ _;have hzf:=HS6.out.z;clear hq1 hp1 hKF hBP
   go_wp2_with (first|((with_reducible show wpList _ _ _ _ _ _);refine stR (.tmp 6) (.tmp 31) ⟨0,0,0,0⟩ (w.heap.size+1+1) rfl rfl HS6.out.p rfl rfl rfl ?_))
   refine wpIn_ret ?_;simp only [Exit.then,Exit.inBlock];refine ⟨HKF.out.trans ((KeepsOthers.setCell _ _ _).from _),rfl,?_,?_⟩
   ·rw [List.map_append,show List.map Subtype.val [(⟨k,hk⟩:{k:Nat // k<R.length})]=[k] from rfl,seL_snoc,HSE.out];simp only [Option.bind_some];rw [HTK.out,if_neg (by rw [HQ.out];exact Bool.noConfusion)]
   ·exact ⟨(Below.heap_setCell _ ⟨w.heap.size+1+1+1,0,none⟩ _ _ (by show _≠_;simp)).trans HP1.out,putS HQ1.out (.bool false),HBP.out.setCell (p:=⟨w.heap.size+1+1+1,0,none⟩) (by show w.heap.size≤w.heap.size+1+1+1;omega) _,by have:=(Below.refl w.heap.size (wf1.setCells (w.heap.size+1+1) 0 (valsRe ⟨0,0,0,0⟩))).setCell (p:=⟨w.heap.size+1+1+1,0,none⟩) (by show w.heap.size≤w.heap.size+1+1+1;omega) (.bool false);have:=this.size;omega⟩
  ·go_wp2;refine wpIn_cond_false rfl ?_;refine wpIn_skip ?_;refine hK2 _ _ ?_;clear hK2 K2;refine wpIn_region_lift (by kernel_rfl) ?_
   have hn:(wf1.setCells (w.heap.size+1+1+1+1) 0 (valsRe Z)).heap[w.heap.size+1+1+1+1]?=some (.cells (valsRe Z).toArray 38 (0,0)):=by rw [heap_setCells _ _ _ _ HS6.out.s,wrAt_all (by rfl)]
   have hne:∀ j,j≠w.heap.size+1+1+1+1→(wf1.setCells (w.heap.size+1+1+1+1) 0 (valsRe Z)).heap[j]?=wf1.heap[j]?:=fun j hj=>heap_setCells_ne hj _ _ _
   have HSN:=Lib.hid (show SeW w (some ⟨b,off,none⟩) c R.length g Z (wf1.setCells (w.heap.size+1+1+1+1) 0 (valsRe Z)) from
    ⟨(hne _ (by omega)).trans HS6.out.t,(hne _ (by omega)).trans HS6.out.r,(hne _ (by omega)).trans HS6.out.p,(hne _ (by omega)).trans HS6.out.q,hn,below_setCells (by omega) _ _ _ HS6.out.l,by rw [size_setCellsT];exact HS6.out.z⟩)
   have HKF:=Lib.hid (show KeepsFrom W0.heap.size W1 (wf1.setCells (w.heap.size+1+1+1+1) 0 (valsRe Z)) from (keepsFrom_below HB6.out).trans (keepsFrom_setCells _ _ _))
   have HKU:=Lib.hid (show KU (w.heap.size+1+1+1+1+1+1) (w.heap.size+1+1+1+1+1) b W1 (wf1.setCells (w.heap.size+1+1+1+1) 0 (valsRe Z)) from
    ⟨(hne _ (by omega)).trans (HB6.out.block _ (by omega)),(hne _ (by omega)).trans (HB6.out.block _ (by omega)),(hne _ (by omega)).trans (HB6.out.block _ (by omega))⟩)
   clear hn hne
   go_wp2_with (first|((with_reducible show wpList _ _ _ _ _ _);refine stR (.tmp 8) (.tmp 32) Z (w.heap.size+1+1+1+1) rfl rfl HS6.out.s rfl rfl rfl ?_))
   refine ⟨HKF.out,HKU.out,Z,?_,?_,HSN.out⟩
   ·rw [List.map_append,show List.map Subtype.val [(⟨k,hk⟩:{k:Nat // k<R.length})]=[k] from rfl,seL_snoc,HSE.out];simp only [Option.bind_some];rw [HTK.out,if_pos HQ.out];have hz:=HZ.out;unfold metRe at hz;rw [if_pos HQ.out] at hz;rw [hz]
   ·have hz:=HZ.out;unfold metRe at hz;rw [if_pos HQ.out] at hz;rw [<- hz];exact HLS.out.1.meet HLS.out.2 HQ.out
 case done =>
  rintro D ys W hD rfl ⟨S,hse,hLS,hs⟩ hK;have HS:=Lib.hid hs;have HSE:=Lib.hid hse;have HRS:=Lib.hid (show W.rangeAt (w.heap.size+1+1+1+1) 0 (valsRe S) from fun j v hj=>by rw [Nat.zero_add];exact (cellS hs.s j).trans (by simpa using hj));have hzW:=hs.z
  have hq1:(W.setCells (w.heap.size+1+1) 0 (valsRe S)).heap[w.heap.size+1+1+1]?=some (.cells #[.bool false] 4 (0,0)):=(heap_setCells_ne (by omega) _ _ _).trans hs.q
  have hp1:(W.setCells (w.heap.size+1+1) 0 (valsRe S)).heap[w.heap.size+1+1]?=some (.cells (valsRe S).toArray 38 (0,0)):=by rw [heap_setCells _ _ _ _ hs.p,wrAt_all (by rfl)]
  have q0:=cellS hq1 0;have fq0:=frozenS hq1 0;have HP1:=Lib.hid hp1;have hD1:((W.setCells (w.heap.size+1+1) 0 (valsRe S)).setCell ⟨w.heap.size+1+1+1,0,none⟩ (.bool true)).heap[D]?=some (.deferred (some [])):=(Below.heap_setCell _ ⟨w.heap.size+1+1+1,0,none⟩ _ _ (by show D≠w.heap.size+1+1+1;omega)).trans ((heap_setCells_ne (by omega) _ _ _).trans hK)
  have hp2:((W.setCells (w.heap.size+1+1) 0 (valsRe S)).setCell ⟨w.heap.size+1+1+1,0,none⟩ (.bool true)).heap[w.heap.size+1+1]?=some (.cells (valsRe S).toArray 38 (0,0)):=(Below.heap_setCell _ ⟨w.heap.size+1+1+1,0,none⟩ _ _ (by show w.heap.size+1+1≠w.heap.size+1+1+1;omega)).trans hp1
  have hq2:((W.setCells (w.heap.size+1+1) 0 (valsRe S)).setCell ⟨w.heap.size+1+1+1,0,none⟩ (.bool true)).heap[w.heap.size+1+1+1]?=some (.cells #[.bool true] 4 (0,0)):=putS hq1 (.bool true)
  have hb2:Below w.heap.size w ((W.setCells (w.heap.size+1+1) 0 (valsRe S)).setCell ⟨w.heap.size+1+1+1,0,none⟩ (.bool true)):=(below_setCells (by omega) _ _ _ hs.l).setCell (p:=⟨w.heap.size+1+1+1,0,none⟩) (by show w.heap.size≤w.heap.size+1+1+1;omega) _;have HF:=Lib.hid (And.intro hD1 (And.intro hp2 (And.intro hq2 hb2)));clear hs hse hp1 hq1 hD1 hp2 hq2 hb2
  gi_wp2_with (first|(refine ldNI 38 _ (valsRe S) (w.heap.size+1+1+1+1) 0 rfl rfl rfl HRS.out Tryz.underlying38 rfl (by kernel_rfl) ?_)|((with_reducible show wpListIn _ _ _ _ _ _ _ _);refine stRI (.tmp 6) (.tmp 33) S (w.heap.size+1+1) rfl rfl HS.out.p rfl rfl rfl ?_))
  obtain ⟨hD1,hp2,hq2,hb2⟩:=HF.out;clear q0 fq0;generalize ((W.setCells (w.heap.size+1+1) 0 (valsRe S)).setCell ⟨w.heap.size+1+1+1,0,none⟩ (.bool true))=WF at *;refine ⟨by simp,.inl ⟨_,_,rfl,run_takeDeferred hD1,?_⟩⟩;have hp3:(WF.putObj D (.deferred none)).heap[w.heap.size+1+1]?=some (.cells (valsRe S).toArray 38 (0,0)):=(World.putObj_heap_other (by omega)).trans hp2
  have hq3:(WF.putObj D (.deferred none)).heap[w.heap.size+1+1+1]?=some (.cells #[.bool true] 4 (0,0)):=(World.putObj_heap_other (by omega)).trans hq2
  obtain ⟨e0,e1,e2,e3⟩:(WF.putObj D (.deferred none)).cell? ⟨w.heap.size+1+1,0,none⟩=some (.int .i64 S.x)∧(WF.putObj D (.deferred none)).cell? ⟨w.heap.size+1+1,1,none⟩=some (.int .i64 S.y)∧(WF.putObj D (.deferred none)).cell? ⟨w.heap.size+1+1,2,none⟩=some (.int .i64 S.u)∧(WF.putObj D (.deferred none)).cell? ⟨w.heap.size+1+1,3,none⟩=some (.int .i64 S.v):=⟨cellS hp3 0,cellS hp3 1,cellS hp3 2,cellS hp3 3⟩
  have e4:=cellS hq3 0;have hbF:Below w.heap.size w (WF.putObj D (.deferred none)):=hb2.trans (belowK_b (w:=w) (Nat.le_refl _) WF D _ _ (by omega) hD1 rfl rfl);refine ⟨.tuple #[.agg #[.int .i64 (S.x),.int .i64 (S.y),.int .i64 (S.u),.int .i64 (S.v)],.bool true],?_,?_,hbF⟩
  ·simp only [results,Tryz.results42];go_simp
  ·rw [HSE.out];rfl
 case stop =>
  rintro D c' pre W hD ⟨rest,hrest⟩ ⟨rfl,hno,hx⟩ hK;have hzW:=hx.z;refine wpIn_ret ?_;simp only [Exit.then,Exit.inBlock];refine ⟨by simp,.inl ⟨_,_,rfl,run_takeDeferred hK,?_⟩⟩;have hp3:(W.putObj D (.deferred none)).heap[w.heap.size+1+1]?=some (.cells zRe 38 (0,0)):=(World.putObj_heap_other (by omega)).trans hx.p
  have hq3:(W.putObj D (.deferred none)).heap[w.heap.size+1+1+1]?=some (.cells #[.bool false] 4 (0,0)):=(World.putObj_heap_other (by omega)).trans hx.q
  obtain ⟨e0,e1,e2,e3⟩:(W.putObj D (.deferred none)).cell? ⟨w.heap.size+1+1,0,none⟩=some (.int .i64 0)∧(W.putObj D (.deferred none)).cell? ⟨w.heap.size+1+1,1,none⟩=some (.int .i64 0)∧(W.putObj D (.deferred none)).cell? ⟨w.heap.size+1+1,2,none⟩=some (.int .i64 0)∧(W.putObj D (.deferred none)).cell? ⟨w.heap.size+1+1,3,none⟩=some (.int .i64 0):=⟨cellS hp3 0,cellS hp3 1,cellS hp3 2,cellS hp3 3⟩
  have e4:=cellS hq3 0;have hbF:Below w.heap.size w (W.putObj D (.deferred none)):=hx.l.trans (belowK_b (w:=w) (Nat.le_refl _) W D _ _ (by omega) hK rfl rfl);refine ⟨.tuple #[.agg #[.int .i64 (0),.int .i64 (0),.int .i64 (0),.int .i64 (0)],.bool false],?_,?_,hbF⟩
  ·simp only [results,Tryz.results42];go_simp
  ·rw [hrest,List.map_append,seL_none hno];rfl
end
theorem genK {K:Act→World→Prop} {a:Act} {w:World} (F:World→Prop) (hF:F w) (h:∀ W,F W→K a W):K a w:=h w hF
structure SpW (w:World) (A:Option Addr) (c n:Nat) (S:Re) (W:World):Prop where
 t:W.heap[w.heap.size]?=some (.cells #[.slice A n c] 30 (0,0))
 p:W.heap[w.heap.size+1]?=some (.cells zRe 38 (0,0))
 s:W.heap[w.heap.size+1+1]?=some (.cells (valsRe S).toArray 38 (0,0))
 l:Below w.heap.size w W
theorem SpW.below {w X Y:World} {A:Option Addr} {c n:Nat} {S:Re} (h:SpW w A c n S X) (hb:Below X.heap.size X Y):SpW w A c n S Y :=
 ⟨(hb.block _ (ltS h.t)).trans h.t,(hb.block _ (ltS h.p)).trans h.p,(hb.block _ (ltS h.s)).trans h.s,bkeep2 h.l hb⟩
theorem SpW.set {w X:World} {A:Option Addr} {c n:Nat} {S:Re} (h:SpW w A c n S X) (Z:Re):SpW w A c n Z (X.setCells (w.heap.size+1+1) 0 (valsRe Z)) :=
 ⟨(heap_setCells_ne (by omega) _ _ _).trans h.t,(heap_setCells_ne (by omega) _ _ _).trans h.p,by rw [heap_setCells _ _ _ _ h.s,wrAt_all (by rfl)],below_setCells (by omega) _ _ _ h.l⟩
theorem four4 {W:World} {b:Nat} {S:Re} {T:TypeId} (h:W.heap[b]?=some (.cells (valsRe S).toArray T (0,0))):(W.cell? ⟨b,0,none⟩=some (.int .i64 S.x)∧W.cell? ⟨b,1,none⟩=some (.int .i64 S.y)∧W.cell? ⟨b,2,none⟩=some (.int .i64 S.u)∧W.cell? ⟨b,3,none⟩=some (.int .i64 S.v))∧W.frozen? ⟨b,0,none⟩=false∧W.frozen? ⟨b,1,none⟩=false∧W.frozen? ⟨b,2,none⟩=false∧W.frozen? ⟨b,3,none⟩=false :=
 ⟨⟨cellS h 0,cellS h 1,cellS h 2,cellS h 3⟩,frozenS h 0,frozenS h 1,frozenS h 2,frozenS h 3⟩
theorem seen_v (A:Option Addr) (c:Nat) (R:List Nr) (M:List Re) (g i:Nat) (x0:{k:Nat // k<R.length}) (xs:List {k:Nat // k<R.length}) (w:World) (hT:TrOK (R.map Nr.n)) (h:NrV w A R) (hM:ReB w g M) (hMR:M.length=R.length) (hL:∀ S∈M,LwR S) (hi:i<R.length) (hup:IsUp (R.map Nr.n) (i:Int) ((x0 :: xs).map upC)) :
  Calls Tryz.prog 39 #[.agg #[.slice A R.length c],.slice (some ⟨g,0,none⟩) R.length R.length,.int .i64 (i:Int)] w fun e w'=>e=.returned (seVal (seL M (rcN M i) ((x0 :: xs).map Subtype.val)))∧Below w.heap.size w w':=by
 obtain ⟨x0,hx0⟩:=x0;obtain ⟨eq,h0q,nd,hnd,hlt,hge,hr⟩:=hup
 change (x0:Int)=(i:Int) at eq
 obtain rfl:x0=i:=by omega
 have hL10:R.length≤10:=by have:=hT.l10;rwa [List.length_map] at this
 obtain ⟨b,off,rfl,hb,hps⟩:=h.cells (by omega)
 obtain ⟨n,hn⟩:∃ n,R[x0]?=some n:=⟨_,List.getElem?_eq_getElem hi⟩
 rw [Int.toNat_natCast,List.getElem?_map,hn] at hnd
 obtain rfl:n.n=nd:=by simpa using hnd
 obtain ⟨S0,hS0⟩:∃ S,rcN M x0=S:=⟨_,rfl⟩
 have LS0:LwR S0:=hS0 ▸ rcN_lw hL (by omega)
 obtain ⟨ks,hks⟩:∃ ks,xs.map Subtype.val=ks:=⟨_,rfl⟩
 rw [show (⟨x0,hx0⟩ :: xs:List {k:Nat // k<R.length}).map Subtype.val=x0 :: xs.map Subtype.val from rfl,hS0,hks];have HKS:=hD hks;clear hks;have hrg:=reB_at hM (i:=x0) (by omega);rw [hS0] at hrg;have HPS:=hD hps;have HM:=hD hM;have HMR:=hD hMR;have HR:=hD hr;have HN:=hD hn;have HS0:=hD hS0;have HLS:=hD LS0
 have HRG:=hD (show ((w.alloc (.cells #[.slice (some ⟨b,off,none⟩) R.length c] 30)).alloc (.cells zRe 38)).rangeAt g (x0*4) (valsRe S0) from rangeB (rangeB hrg ((balloc (Below.refl _ _)).block g hM.lt)) ((balloc (Below.refl _ _)).block g (Nat.lt_of_lt_of_le hM.lt (by simp))))
 have hdi:(x0:Int)<(R.length:Int):=by omega
 clear hps h hM hMR hr hn hnd hrg LS0 hS0
 go_enter Tryz.func39,Tryz.ntmps39
 go_upto_region 2 with (first|((with_reducible show wpList _ _ _ _ _ _);refine ldK 38 _ [.int .i64 S0.x,.int .i64 S0.y,.int .i64 S0.u,.int .i64 S0.v] g (x0*4) rfl rfl HRG.out Tryz.underlying38 rfl (by kernel_rfl) rfl ?_))
 refine wp_genGG (fun W=>SpW w (some ⟨b,off,none⟩) c R.length S0 W) ?g1 (fun W hW=>?_)
 case g1 =>
  have a1:=newS w (.cells #[.slice (some ⟨b,off,none⟩) R.length c] 30 (0,0));have a2:=newS (w.alloc (.cells #[.slice (some ⟨b,off,none⟩) R.length c] 30 (0,0))) (.cells zRe 38 (0,0));have a3:=newS ((w.alloc (.cells #[.slice (some ⟨b,off,none⟩) R.length c] 30 (0,0))).alloc (.cells zRe 38 (0,0))) (.cells (valsRe S0).toArray 38 (0,0));simp only [World.size_alloc] at a2 a3
  exact ⟨(Below.heap_alloc _ _ _ (by simp;omega)).trans ((Below.heap_alloc _ _ _ (by simp)).trans a1),(Below.heap_alloc _ _ _ (by simp)).trans a2,a3,balloc (balloc (balloc (Below.refl _ _)))⟩
 have HSP:=hD hW;clear hW HRG
 obtain ⟨q,hq⟩:∃ q,hitRe S0 S0=q:=⟨_,rfl⟩
 have hq':=hq;rw [hitRe_self] at hq';have HQ:=hD hq;clear hq
 have HCS:=hD (show decide (S0.u>0)=true∧decide (S0.v>0)=q∨decide (S0.u>0)=false∧q=false by
  by_cases g1:0<S0.u
  ·exact .inl ⟨decide_eq_true g1,by simpa [g1] using hq'⟩
  ·exact .inr ⟨decide_eq_false g1,by simpa [g1] using hq'.symm⟩)
 clear hq'
 rcases HCS.out with ⟨hd1,hd2⟩ | ⟨hd1,rfl⟩
 all_goals
  clear HCS;have hpa:W.rangeAt b (off+x0*34) (valsNr n):=rangeB (HPS.out x0 n HN.out) (HSP.out.l.block b hb);have xp:W.cell? ⟨b,off+x0*34,none⟩=some (.int .i64 n.n.pa):=hpa 0 _ rfl;have xt:=cellS HSP.out.t 0;obtain ⟨⟨s0,s1,s2,s3⟩,f0,f1,f2,f3⟩:=four4 HSP.out.s;clear hpa
  go_wp2_with fail
  clear xp xt s0 s1 s2 s3 f0 f1 f2 f3
  go_loopw [9,10] (fun okv kv wr=>∃ (pre rest:List {k:Nat // k<R.length}) (p:Int) (o:Bool) (S:Re),kv=.int .i64 p∧okv=.bool o∧xs=pre ++ rest∧IsUp (R.map Nr.n) p (rest.map upC)∧(o=true→seL M S0 (x0 :: pre.map Subtype.val)=some S∧LwR S)∧(o=false→seL M S0 (x0 :: pre.map Subtype.val)=none)∧SpW w (some ⟨b,off,none⟩) c R.length S wr) (fun _ kv _=>(intOf kv+1).toNat)
  case atStart=>exact ⟨[],xs,n.n.pa,_,S0,rfl,rfl,rfl,HR.out,fun e=>⟨by show seL M S0 [x0]=_;simp only [seL];rw [HS0.out,HQ.out,e,if_pos rfl,meetRe_self],HLS.out⟩,fun e=>by show seL M S0 [x0]=_;simp only [seL];rw [HS0.out,HQ.out,e];rfl,HSP.out⟩
  case round =>
   obtain ⟨pre,rest,p,o,S,rfl,rfl,hx,hup,hyes,hno,hsp⟩:=hrel;clear HSP;have HSP:=hD hsp;have HXX:=hD hx;have xt:=cellS HSP.out.t 0;obtain ⟨⟨s0,s1,s2,s3⟩,f0,f1,f2,f3⟩:=four4 HSP.out.s;clear hsp hx
   cases o
   ·
    have HNO:=hD (show seL M S0 (x0 :: ks)=none by rw [<- HKS.out,HXX.out,List.map_append,<- List.cons_append];exact seL_none (hno rfl));clear hyes hno
    cases hd:decide (p≥0)
    all_goals
     have hp2:(wr.setCells (w.heap.size+1) 0 (valsRe ⟨0,0,0,0⟩)).heap[w.heap.size+1]?=some (.cells (valsRe ⟨0,0,0,0⟩).toArray 38 (0,0)):=by rw [heap_setCells _ _ _ _ HSP.out.p,wrAt_all (by rfl)]
     have hb2:Below w.heap.size w (wr.setCells (w.heap.size+1) 0 (valsRe ⟨0,0,0,0⟩)):=below_setCells (by omega) _ _ _ HSP.out.l;obtain ⟨⟨e0,e1,e2,e3⟩,-⟩:=four4 hp2;have HB2:=hD hb2;clear hp2 hb2
     go_wp2_with (first|((with_reducible show wpList _ _ _ _ _ _);refine stR (.tmp 6) (.tmp 51) ⟨0,0,0,0⟩ (w.heap.size+1) rfl rfl HSP.out.p rfl rfl rfl ?_))
     exact bodyPost_ret (v:=.tuple #[.agg #[.int .i64 (0),.int .i64 (0),.int .i64 (0),.int .i64 (0)],.bool false]) (by simp only [results,Tryz.results39];go_simp) rfl ⟨by rw [HNO.out];rfl,HB2.out⟩
   ·cases rest with
    | nil =>
     obtain rfl:p=-1:=hup;obtain ⟨hse,hls⟩:=hyes rfl;have HSE:=hD (show seL M S0 (x0 :: ks)=some S by rw [<- HKS.out,HXX.out,List.append_nil];exact hse);clear hyes hno hse hls
     have hp2:(wr.setCells (w.heap.size+1) 0 (valsRe S)).heap[w.heap.size+1]?=some (.cells (valsRe S).toArray 38 (0,0)):=by rw [heap_setCells _ _ _ _ HSP.out.p,wrAt_all (by rfl)]
     have hb2:Below w.heap.size w (wr.setCells (w.heap.size+1) 0 (valsRe S)):=below_setCells (by omega) _ _ _ HSP.out.l;obtain ⟨⟨e0,e1,e2,e3⟩,-⟩:=four4 hp2;have HB2:=hD hb2;clear hp2 hb2
     go_wp2_with (first|((with_reducible show wpList _ _ _ _ _ _);refine stR (.tmp 6) (.tmp 52) S (w.heap.size+1) rfl rfl HSP.out.p rfl rfl rfl ?_))
     exact bodyPost_ret (v:=.tuple #[.agg #[.int .i64 (S.x),.int .i64 (S.y),.int .i64 (S.u),.int .i64 (S.v)],.bool true]) (by simp only [results,Tryz.results39];go_simp) rfl ⟨by rw [HSE.out];rfl,HB2.out⟩
    | cons y ys =>
     obtain ⟨k,hk⟩:=y;obtain ⟨ek,h0k,nk,hnk,hltk,hgek,hrk⟩:=hup
     change (k:Int)=p at ek
     subst ek;rw [Int.toNat_natCast,List.getElem?_map] at hnk;obtain ⟨m,hm,rfl⟩:=Option.map_eq_some_iff.1 hnk;obtain ⟨hse,hls⟩:=hyes rfl
     obtain ⟨T,hTk⟩:∃ T,rcN M k=T:=⟨_,rfl⟩
     have hlt:LwR T:=hTk ▸ rcN_lw hL (by rw [HMR.out];exact hk);have hrg:=reB_at (HM.out.keep HSP.out.l) (i:=k) (by rw [HMR.out];exact hk);rw [hTk] at hrg;have HTK:=hD hTk;have HSE:=hD hse;have HLS:=hD (And.intro hls hlt)
     obtain ⟨d0,d1,d2,d3⟩:(wr.cell? ⟨g,k*4,none⟩=some (.int .i64 T.x)∧wr.cell? ⟨g,k*4+1,none⟩=some (.int .i64 T.y)∧wr.cell? ⟨g,k*4+2,none⟩=some (.int .i64 T.u)∧wr.cell? ⟨g,k*4+3,none⟩=some (.int .i64 T.v)):=⟨hrg 0 _ rfl,hrg 1 _ rfl,hrg 2 _ rfl,hrg 3 _ rfl⟩
     obtain ⟨Z,hZ⟩:∃ Z,metRe S T=Z:=⟨_,rfl⟩
     obtain ⟨o,ho⟩:∃ o,hitRe S T=o:=⟨_,rfl⟩
     have HCA:Hid (∀ W':World,Calls Tryz.prog 52 #[.agg #[.int .i64 (S.x),.int .i64 (S.y),.int .i64 (S.u),.int .i64 (S.v)],.agg #[.int .i64 (T.x),.int .i64 (T.y),.int .i64 (T.u),.int .i64 (T.v)]] W' fun e w'=>e=.returned (.tuple #[.agg #[.int .i64 (Z.x),.int .i64 (Z.y),.int .i64 (Z.u),.int .i64 (Z.v)],.bool o])∧Below W'.heap.size W' w'):=hD fun W'=>by
      have:=smeet_v S T W' HLS.out.1 HLS.out.2
      rw [hZ,ho] at this;exact this
     have HZ:=hD hZ;have HO:=hD ho;have HNK:=hD hm;have HRK:=hD hrk
     obtain ⟨z,hz⟩:∃ z,m.n.pa=z:=⟨_,rfl⟩
     have HZZ:=hD hz;rw [hz] at hltk hgek;have hd:decide ((k:Int)≥0)=true:=decide_eq_true h0k;have hd2:decide ((0:Int)≤(k:Int))=true:=decide_eq_true h0k
     have hdk:(k:Int)<(R.length:Int):=by omega
     have lg:g<wr.heap.size:=(HM.out.keep HSP.out.l).lt;have ls:=ltS HSP.out.s;have lt:=ltS HSP.out.t;have ls':w.heap.size+1+1<wr.drew.heap.size:=ls;have lt':w.heap.size<wr.drew.heap.size:=lt;have lg':g<wr.drew.heap.size:=lg;clear hyes hno hse hls hlt hrg hTk hZ ho hm hnk hrk hz
     go_wp2_with fail
     refine wp_region_grow 9 2 (fun i=>decide (i<9)&&i != 8) (by kernel_rfl) (by kernel_rfl) rfl ?_
     iterate 9 (refine wpG_step (fun K hK=>?_);apply Exists.intro;refine ⟨.inl ⟨rfl,fun w' hw'=>?_⟩,?_⟩;(focus ((obtain ⟨hc,hf⟩:=bcell hw'.out);(have hcS:=bcellS hw'.out);go_simp <;> first | rfl|(go_at_call 52;exact HCA.out _)));(go_simp;refine hK _ ?_;clear hK K))
     refine wpG_nil ?_;refine wpK_tail (by kernel_rfl) (fun wt1 ht1=>?_);obtain ⟨hct1,hft1⟩:=bcell ht1.out;have kb0_0:wt1.cell? ⟨w.heap.size+1+1,0,none⟩=some (.int .i64 (S.x)):=(hct1 _ _ (by assumption)).trans (by assumption);have kg0_0:wt1.frozen? ⟨w.heap.size+1+1,0,none⟩=false:=(hft1 _ _ (by assumption)).trans (by assumption)
     have kb0_1:wt1.cell? ⟨w.heap.size+1+1,1,none⟩=some (.int .i64 (S.y)):=(hct1 _ _ (by assumption)).trans (by assumption);have kg0_1:wt1.frozen? ⟨w.heap.size+1+1,1,none⟩=false:=(hft1 _ _ (by assumption)).trans (by assumption);have kb0_2:wt1.cell? ⟨w.heap.size+1+1,2,none⟩=some (.int .i64 (S.u)):=(hct1 _ _ (by assumption)).trans (by assumption)
     have kg0_2:wt1.frozen? ⟨w.heap.size+1+1,2,none⟩=false:=(hft1 _ _ (by assumption)).trans (by assumption);have kb0_3:wt1.cell? ⟨w.heap.size+1+1,3,none⟩=some (.int .i64 (S.v)):=(hct1 _ _ (by assumption)).trans (by assumption);have kg0_3:wt1.frozen? ⟨w.heap.size+1+1,3,none⟩=false:=(hft1 _ _ (by assumption)).trans (by assumption);clear hct1 hft1;refine wpAny_one (i:=9) (by kernel_rfl) rfl rfl ?_
     go_simp;refine wpAny_one (i:=10) (by kernel_rfl) rfl rfl ?_;go_simp;refine wpAny_end (by kernel_rfl) ?_;refine nopan_normal ?_;have hsp2:SpW w (some ⟨b,off,none⟩) c R.length Z (wt1.setCells (w.heap.size+1+1) 0 (valsRe Z)):=(HSP.out.below (bdrewn ht1.out)).set Z;clear kb0_0 kb0_1 kb0_2 kb0_3 kg0_0 kg0_1 kg0_2 kg0_3 HCA d0 d1 d2 d3 s0 s1 s2 s3 f0 f1 f2 f3 xt ls' lt' lg' ls lt lg
     simp only [Exit.inBlock,Exit.then];refine genK (fun W2=>SpW w (some ⟨b,off,none⟩) c R.length Z W2) hsp2 (fun W2 h2=>?_);clear hsp2 ht1 wt1;have HSP2:=hD h2;have xt:=cellS h2.t 0
     have xp:W2.cell? ⟨b,off+k*34,none⟩=some (.int .i64 z):=by
      have:=rangeB (HPS.out k m HNK.out) (h2.l.block b hb) 0 _ rfl
      rw [HZZ.out] at this;exact this
     clear h2;go_wp2
     go_roundw
     case rel=>exact ⟨pre ++ [⟨k,hk⟩],ys,z,o,Z,rfl,rfl,by rw [HXX.out];simp,by have:=HRK.out;rwa [HZZ.out] at this,fun e=>by
      have e2:=HO.out.trans e;have hz:=HZ.out;unfold metRe at hz;rw [if_pos e2] at hz;rw [List.map_append,show List.map Subtype.val [(⟨k,hk⟩:{k:Nat // k<R.length})]=[k] from rfl,<- List.cons_append,seL_snoc,HSE.out];simp only [Option.bind_some];rw [HTK.out,if_pos e2,hz]
      exact ⟨rfl,hz ▸ HLS.out.1.meet HLS.out.2 e2⟩,fun e=>by
      have e2:=HO.out.trans e;rw [List.map_append,show List.map Subtype.val [(⟨k,hk⟩:{k:Nat // k<R.length})]=[k] from rfl,<- List.cons_append,seL_snoc,HSE.out];simp only [Option.bind_some]
      rw [HTK.out,if_neg (by rw [e2];exact Bool.noConfusion)],HSP2.out⟩
     case measure=>simp [intOf];omega
section
theorem IsUp.uniq {L:List Nd}:∀ {xs ys:List Int} {p:Int},IsUp L p xs→IsUp L p ys→xs=ys
 | [],[],_,_,_=>rfl
 | [],y :: ys,p,h,k=>by obtain ⟨_,h0,_⟩:=k;have:p=-1:=h;omega
 | x :: xs,[],p,h,k=>by obtain ⟨_,h0,_⟩:=h;have:p=-1:=k;omega
 | x :: xs,y :: ys,p,h,k=>by
  obtain ⟨rfl,h0,n,hn,_,_,h1⟩:=h;obtain ⟨rfl,k0,m,hm,_,_,k1⟩:=k;rw [hn] at hm;obtain rfl:=Option.some.inj hm;rw [h1.uniq k1]
theorem up_idx {L:List Nd} (N:Nat) (hN:L.length=N):∀ {xs:List Int} {p:Int},IsUp L p xs→∃ ys:List {k:Nat // k<N},xs=ys.map upC
 | [],_,_=>⟨[],rfl⟩
 | x :: xs,p,h=>by
  obtain ⟨rfl,h0,n,hn,_,_,h1⟩:=h;obtain ⟨ys,rfl⟩:=up_idx N hN h1;have hl:=(List.getElem?_eq_some_iff.1 hn).1;exact ⟨⟨x.toNat,by omega⟩ :: ys,by simp [upC];omega⟩
open Classical in
noncomputable def seM (L:List Nd) (M:List Re) (i:Nat):Option Re:=if h:∃ ks:List Nat,IsUp L (i:Int) (ks.map fun (k:Nat)=>(k:Int)) then seL M (rcN M i) h.choose else none
theorem seM_eq {L:List Nd} {M:List Re} {i:Nat} {ks:List Nat} (h:IsUp L (i:Int) (ks.map fun (k:Nat)=>(k:Int))):seM L M i=seL M (rcN M i) ks:=by
 have he:∃ ks:List Nat,IsUp L (i:Int) (ks.map fun (k:Nat)=>(k:Int)):=⟨ks,h⟩
 unfold seM;rw [dif_pos he];have e:=he.choose_spec.uniq h;rw [List.map_inj_right (fun a b e=>by exact Int.ofNat_inj.1 e) |>.1 e]
theorem seen_up {L:List Nd} {N:Nat} (ht:TrOK L) (hu:∀ k,k<L.length→∃ xs,IsUp L (k:Int) xs) (hN:L.length=N) {i:Nat} (hi:i<N):∃ (x0:{k:Nat // k<N}) (xs:List {k:Nat // k<N}),IsUp L (i:Int) ((x0 :: xs).map upC)∧∀ M,seM L M i=seL M (rcN M i) ((x0 :: xs).map Subtype.val):=by
 obtain ⟨xs,hx⟩:=hu i (by omega);obtain ⟨ys,rfl⟩:=up_idx N hN hx
 cases ys with
 | nil=>have:(i:Int)=-1:=hx;omega
 | cons y ys=>exact ⟨y,ys,hx,fun M=>seM_eq (by rw [List.map_map];exact hx)⟩
theorem up_tr {L:List Nd} (hT:TrOK L):∀ (f k:Nat),k<f→k<L.length→∃ xs,IsUp L (k:Int) xs:=by
 intro f
 induction f with
 | zero=>intro k hk;omega
 | succ f ih =>
  intro k hk hl;have hn:=List.getElem?_eq_getElem hl
  rcases hT.up k _ hn with ⟨rfl,e⟩ | ⟨h0,h1,h2⟩
  ·exact ⟨[((0:Nat):Int)],IsUp.cons (by omega) (by rw [Int.toNat_natCast];exact hn) (by omega) (by omega) (by rw [e];exact IsUp.nil)⟩
  ·obtain ⟨p,hp⟩:∃ p:Nat,(L[k]'hl).pa=(p:Int):=⟨_,(Int.toNat_of_nonneg h1).symm⟩
   obtain ⟨xs,hx⟩:=ih p (by omega) (by omega);exact ⟨(k:Int) :: xs,IsUp.cons (by omega) (by rw [Int.toNat_natCast];exact hn) (by omega) (by omega) (by rw [hp];exact hx)⟩
noncomputable def hidF (L:List Nd) (M:List Re) (i:Nat):Bool:=!(seM L M i).isSome
noncomputable def hidM (L:List Nd) (a b:Int):List Int:=idsM (hidF L (lyL L a b)) (lyL L a b).length
theorem seVal_bool (o:Option Re):∃ r:Re,seVal o=.tuple #[.agg #[.int .i64 (r.x),.int .i64 (r.y),.int .i64 (r.u),.int .i64 (r.v)],.bool o.isSome]:=by
 cases o with
 | none=>exact ⟨⟨0,0,0,0⟩,rfl⟩
 | some S=>exact ⟨S,rfl⟩
theorem seenPart_m (A:Option Addr) (c:Nat) (R:List Nr) (M:List Re) (g i:Nat) (w:World) (hT:TrOK (R.map Nr.n)) (h:NrV w A R) (hM:ReB w g M) (hMR:M.length=R.length) (hL:∀ S∈M,Lw S.x S.y S.u S.v) (hi:i<R.length) :
  Calls Tryz.prog 42 #[.agg #[.slice A R.length c],.slice (some ⟨g,0,none⟩) R.length R.length,.int .i64 (i:Int)] w fun e w'=>e=.returned (seVal (seM (R.map Nr.n) M i))∧Below w.heap.size w w':=by
 obtain ⟨x0,xs,hu,he⟩:=seen_up hT (fun k hk=>up_tr hT (k+1) k (by omega) hk) (List.length_map ..) hi;rw [he M];exact seenPart_v A c R M g i (x0 :: xs) w hT h hM hMR hL hi hu
theorem seen_m (A:Option Addr) (c:Nat) (R:List Nr) (M:List Re) (g i:Nat) (w:World) (hT:TrOK (R.map Nr.n)) (h:NrV w A R) (hM:ReB w g M) (hMR:M.length=R.length) (hL:∀ S∈M,Lw S.x S.y S.u S.v) (hi:i<R.length) :
  Calls Tryz.prog 39 #[.agg #[.slice A R.length c],.slice (some ⟨g,0,none⟩) R.length R.length,.int .i64 (i:Int)] w fun e w'=>e=.returned (seVal (seM (R.map Nr.n) M i))∧Below w.heap.size w w':=by
 obtain ⟨x0,xs,hu,he⟩:=seen_up hT (fun k hk=>up_tr hT (k+1) k (by omega) hk) (List.length_map ..) hi;rw [he M];exact seen_v A c R M g i x0 xs w hT h hM hMR hL hi hu
end
end Go.Proofs.YtmmfifgdgbmgjaaGreat
