import Derived.Test.YtmmfifgdgbmgjaaGreatQT12
import Derived.Scope
import Derived.WalkSpells
set_option linter.unusedVariables false
set_option linter.unusedSimpArgs false
set_option maxRecDepth 100000
set_option maxHeartbeats 16000000
namespace Go.Proofs.YtmmfifgdgbmgjaaGreat
open Go.RowKit
attribute [local go_sem] growUpon_value growUpon_skip growUpon_enter
def spB (n:Nd):Bool:=rng n.ww 0 30&&(rng n.hh 0 30&&(rng n.ki 0 2&&(n.pk.ok&&(decide (n.pk.w=0)&&(decide (n.pk.h=0)&&(plB n.pl&&(decide (n.ce.cw=0)&&decide (n.ce.ch=0))))))))
theorem nd_sp (n:Nd):ndB n=(spB n&&ownB n):=by
 unfold ndB spB;generalize rng n.ww 0 30=a1;generalize rng n.hh 0 30=a2;generalize rng n.ki 0 2=a3;generalize ownB n=a4;generalize n.pk.ok=a5;generalize decide (n.pk.w=0)=a6;generalize decide (n.pk.h=0)=a7;generalize decide (n.ce.cw=0)=a8;generalize decide (n.ce.ch=0)=a9;generalize plB n.pl=b1
 cases a1 <;> cases a2 <;> cases a3 <;> cases a4 <;> cases a5 <;> cases a6 <;> cases a7 <;> cases a8 <;> cases a9 <;> cases b1 <;> rfl
theorem neb_t {x:Int} (h:decide (x=0)=true):(x != 0)=false:=by simp [bne,eqb_t h]
theorem neb_f {x:Int} (h:decide (x=0)=false):(x != 0)=true:=by simp [bne,eqb_f h]
theorem svalidNode_no (A:Option Addr) (c:Nat) (R:List Nr) (i:Nat) (p:Nr) (w:World) (h:NrV w A R) (hr:RdR w R) (hp:R[i]?=some p) (hL:R.length≤1048576) (hm:∀ p∈R,p.n.cs.length≤1048576∧p.n.rs.length≤1048576) (hb:spB p.n=false) :
  Calls Tryz.prog 70 #[.agg #[.slice A R.length c],.int .i64 i] w fun e w'=>e=.returned (.bool false)∧Below w.heap.size w w':=by
 have hi:i<R.length:=(List.getElem?_eq_some_iff.1 hp).1
 have hii:(i:Int)<(R.length:Int):=by omega
 have hmp:=hm p (List.mem_of_getElem? hp);obtain ⟨mp1,mp2⟩:=hmp;obtain ⟨bl,off,rfl,hbl,hc⟩:=h.cells (by omega);have hB0:Below w.heap.size w (w.alloc (.cells #[.slice (some ⟨bl,off,none⟩) R.length c] 30 (0,0))):=balloc (Below.refl _ _);have HX:=hD (newS w (.cells #[.slice (some ⟨bl,off,none⟩) R.length c] 30 (0,0)));have HLR:=hD (rangeB (hc i p hp) (hB0.block bl hbl));have HV:=hD (h.keep hB0)
 have HR:=hD (hr.keep hB0);have HB:=hD hB0;have HM:=hD hm;have HG:=hD hp;clear hc h hr hm hp hB0
 go_enter Tryz.func70,Tryz.ntmps70
 go_upto_region 2 with (first|(refine ldN _ p bl (off+i*34) rfl rfl rfl HLR.out ?_)|(refine stN (.tmp 5) (.tmp 11) p (w.heap.size+1) 0 rfl rfl rfl rfl (newS1T _ _ _) (by show (0+34:Nat)≤34;omega) ?_))
 refine wp_genGG (fun W=>W.heap[w.heap.size]?=some (.cells #[.slice (some ⟨bl,off,none⟩) R.length c] 30 (0,0))∧W.heap[w.heap.size+1]?=some (.cells (valsNr p).toArray 90 (0,0))∧NrV W (some ⟨bl,off,none⟩) R∧RdR W R∧Below w.heap.size w W) ?hw (fun W h0=>?_)
 case hw =>
  have hbb:Below (w.alloc (.cells #[.slice (some ⟨bl,off,none⟩) R.length c] 30 (0,0))).heap.size (w.alloc (.cells #[.slice (some ⟨bl,off,none⟩) R.length c] 30 (0,0))) (((w.alloc (.cells #[.slice (some ⟨bl,off,none⟩) R.length c] 30 (0,0))).alloc (.cells #[.int .i64 0,.int .i64 0,.int .i64 0,.bool false,.int .i64 0,.slice none 0 0,.slice none 0 0,.int .i64 0,.int .i64 0,.int .i64 0,.bool false,.bool false,.bool false,.int .i64 0,.int .i64 0,.int .i64 0,.int .i64 0,.int .i64 0,.int .i64 0,.int .i64 0,.int .i64 0,.int .i64 0,.int .i64 0,.int .i64 0,.int .i64 0,.int .i64 0,.int .i64 0,.int .i64 0,.int .i64 0,.int .i64 0,.int .i64 0,.int .i64 0,.int .i64 0,.int .i64 0] 90)).setCells (w.heap.size+1) 0 (valsNr p)):=below_setCells (by simp) _ _ _ (balloc (Below.refl _ _))
  exact ⟨(hbb.block _ (ltS HX.out)).trans HX.out,by rw [heap_setCells (valsNr p) 0 _ _ (newS1T w _ _),wrAt_all (by rfl)],HV.out.keep hbb,HR.out.keep hbb,bkeep2 HB.out hbb⟩
 clear HX HLR HV HR HB;obtain ⟨hx,hn,hv,hr,hb0⟩:=h0;have HX:=hD hx;have HN:=hD hn;have HV:=hD hv;have HR:=hD hr;have HB:=hD hb0;clear hx hn hv hr hb0
 cases h1:rng p.n.ww 0 30
 ·clear hb;have hr:=nodeAt HN.out;obtain ⟨x0,x1,x2,x4,x5,x6,x7,x8,x20,x21⟩:=xs0_1_2_4_5_6_7_8_20_21 HN.out;have hrp:=node_pk hr;have hrl:=node_pl hr;have hrc:=node_ce hr;simp only [Nat.zero_add] at hrp hrl hrc;have HRP:=hD hrp;have HRL:=hD hrl;have HRC:=hD hrc;clear hr hrp hrl hrc
  go_wp2_with (first|(refine ldPackH HRP rfl rfl rfl ?_)|(refine ldPlaceH HRL rfl rfl rfl ?_)|(refine ldCellH HRC rfl rfl rfl ?_))
  with_reducible refine (inRange_w _ 0 30 false _ h1).mono ?_
  rintro e wq ⟨rfl,rfl⟩
  go_wp2_with (first|(refine ldPackH HRP rfl rfl rfl ?_)|(refine ldPlaceH HRL rfl rfl rfl ?_)|(refine ldCellH HRC rfl rfl rfl ?_))
  go_ret;exact ⟨rfl,HB.out⟩
 cases h2:rng p.n.hh 0 30
 ·clear hb;have hr:=nodeAt HN.out;obtain ⟨x0,x1,x2,x4,x5,x6,x7,x8,x20,x21⟩:=xs0_1_2_4_5_6_7_8_20_21 HN.out;have hrp:=node_pk hr;have hrl:=node_pl hr;have hrc:=node_ce hr;simp only [Nat.zero_add] at hrp hrl hrc;have HRP:=hD hrp;have HRL:=hD hrl;have HRC:=hD hrc;clear hr hrp hrl hrc
  go_wp2_with (first|(refine ldPackH HRP rfl rfl rfl ?_)|(refine ldPlaceH HRL rfl rfl rfl ?_)|(refine ldCellH HRC rfl rfl rfl ?_))
  with_reducible refine (inRange_w _ 0 30 true _ h1).mono ?_
  rintro e wq ⟨rfl,rfl⟩
  go_wp2_with (first|(refine ldPackH HRP rfl rfl rfl ?_)|(refine ldPlaceH HRL rfl rfl rfl ?_)|(refine ldCellH HRC rfl rfl rfl ?_))
  with_reducible refine (inRange_w _ 0 30 false _ h2).mono ?_
  rintro e wq ⟨rfl,rfl⟩
  go_wp2_with (first|(refine ldPackH HRP rfl rfl rfl ?_)|(refine ldPlaceH HRL rfl rfl rfl ?_)|(refine ldCellH HRC rfl rfl rfl ?_))
  go_ret;exact ⟨rfl,HB.out⟩
 cases h3:rng p.n.ki 0 2
 ·clear hb;have hr:=nodeAt HN.out;obtain ⟨x0,x1,x2,x4,x5,x6,x7,x8,x20,x21⟩:=xs0_1_2_4_5_6_7_8_20_21 HN.out;have hrp:=node_pk hr;have hrl:=node_pl hr;have hrc:=node_ce hr;simp only [Nat.zero_add] at hrp hrl hrc;have HRP:=hD hrp;have HRL:=hD hrl;have HRC:=hD hrc;clear hr hrp hrl hrc
  go_wp2_with (first|(refine ldPackH HRP rfl rfl rfl ?_)|(refine ldPlaceH HRL rfl rfl rfl ?_)|(refine ldCellH HRC rfl rfl rfl ?_))
  with_reducible refine (inRange_w _ 0 30 true _ h1).mono ?_
  rintro e wq ⟨rfl,rfl⟩
  go_wp2_with (first|(refine ldPackH HRP rfl rfl rfl ?_)|(refine ldPlaceH HRL rfl rfl rfl ?_)|(refine ldCellH HRC rfl rfl rfl ?_))
  with_reducible refine (inRange_w _ 0 30 true _ h2).mono ?_
  rintro e wq ⟨rfl,rfl⟩
  go_wp2_with (first|(refine ldPackH HRP rfl rfl rfl ?_)|(refine ldPlaceH HRL rfl rfl rfl ?_)|(refine ldCellH HRC rfl rfl rfl ?_))
  with_reducible refine (inRange_w _ 0 2 false _ h3).mono ?_
  rintro e wq ⟨rfl,rfl⟩
  go_wp2_with (first|(refine ldPackH HRP rfl rfl rfl ?_)|(refine ldPlaceH HRL rfl rfl rfl ?_)|(refine ldCellH HRC rfl rfl rfl ?_))
  go_ret;exact ⟨rfl,HB.out⟩
 cases h4:p.n.pk.ok
 ·clear hb;have hr:=nodeAt HN.out;obtain ⟨x0,x1,x2,x4,x5,x6,x7,x8,x20,x21⟩:=xs0_1_2_4_5_6_7_8_20_21 HN.out;have hrp:=node_pk hr;have hrl:=node_pl hr;have hrc:=node_ce hr;simp only [Nat.zero_add] at hrp hrl hrc;have HRP:=hD hrp;have HRL:=hD hrl;have HRC:=hD hrc;clear hr hrp hrl hrc
  go_wp2_with (first|(refine ldPackH HRP rfl rfl rfl ?_)|(refine ldPlaceH HRL rfl rfl rfl ?_)|(refine ldCellH HRC rfl rfl rfl ?_))
  with_reducible refine (inRange_w _ 0 30 true _ h1).mono ?_
  rintro e wq ⟨rfl,rfl⟩
  go_wp2_with (first|(refine ldPackH HRP rfl rfl rfl ?_)|(refine ldPlaceH HRL rfl rfl rfl ?_)|(refine ldCellH HRC rfl rfl rfl ?_))
  with_reducible refine (inRange_w _ 0 30 true _ h2).mono ?_
  rintro e wq ⟨rfl,rfl⟩
  go_wp2_with (first|(refine ldPackH HRP rfl rfl rfl ?_)|(refine ldPlaceH HRL rfl rfl rfl ?_)|(refine ldCellH HRC rfl rfl rfl ?_))
  with_reducible refine (inRange_w _ 0 2 true _ h3).mono ?_
  rintro e wq ⟨rfl,rfl⟩
  go_wp2_with (first|(refine ldPackH HRP rfl rfl rfl ?_)|(refine ldPlaceH HRL rfl rfl rfl ?_)|(refine ldCellH HRC rfl rfl rfl ?_))
  with_reducible refine (svp_v p.n.pk false h4 _).mono ?_
  rintro e v1 ⟨rfl,hb1⟩;clear x0 x1 x2 x4 x5 x6 x7 x8 x20 x21 HRP HRL HRC;replace HX:=hbk hb1 HX;replace HN:=hbk hb1 HN;replace HV:=hD (HV.out.keep hb1);replace HR:=hD (HR.out.keep hb1);replace HB:=hD (bkeep2 HB.out hb1);clear hb1;have hr:=nodeAt HN.out;obtain ⟨x0,x1,x2,x4,x5,x6,x7,x8,x20,x21⟩:=xs0_1_2_4_5_6_7_8_20_21 HN.out;have hrp:=node_pk hr;have hrl:=node_pl hr;have hrc:=node_ce hr
  simp only [Nat.zero_add] at hrp hrl hrc;have HRP:=hD hrp;have HRL:=hD hrl;have HRC:=hD hrc;clear hr hrp hrl hrc
  go_wp2_with (first|(refine ldPackH HRP rfl rfl rfl ?_)|(refine ldPlaceH HRL rfl rfl rfl ?_)|(refine ldCellH HRC rfl rfl rfl ?_))
  go_ret;exact ⟨rfl,HB.out⟩
 cases h5:decide (p.n.pk.w=0)
 ·clear hb;have e5:=neb_f h5;have hr:=nodeAt HN.out;obtain ⟨x0,x1,x2,x4,x5,x6,x7,x8,x20,x21⟩:=xs0_1_2_4_5_6_7_8_20_21 HN.out;have hrp:=node_pk hr;have hrl:=node_pl hr;have hrc:=node_ce hr;simp only [Nat.zero_add] at hrp hrl hrc;have HRP:=hD hrp;have HRL:=hD hrl;have HRC:=hD hrc;clear hr hrp hrl hrc
  go_wp2_with (first|(refine ldPackH HRP rfl rfl rfl ?_)|(refine ldPlaceH HRL rfl rfl rfl ?_)|(refine ldCellH HRC rfl rfl rfl ?_))
  with_reducible refine (inRange_w _ 0 30 true _ h1).mono ?_
  rintro e wq ⟨rfl,rfl⟩
  go_wp2_with (first|(refine ldPackH HRP rfl rfl rfl ?_)|(refine ldPlaceH HRL rfl rfl rfl ?_)|(refine ldCellH HRC rfl rfl rfl ?_))
  with_reducible refine (inRange_w _ 0 30 true _ h2).mono ?_
  rintro e wq ⟨rfl,rfl⟩
  go_wp2_with (first|(refine ldPackH HRP rfl rfl rfl ?_)|(refine ldPlaceH HRL rfl rfl rfl ?_)|(refine ldCellH HRC rfl rfl rfl ?_))
  with_reducible refine (inRange_w _ 0 2 true _ h3).mono ?_
  rintro e wq ⟨rfl,rfl⟩
  go_wp2_with (first|(refine ldPackH HRP rfl rfl rfl ?_)|(refine ldPlaceH HRL rfl rfl rfl ?_)|(refine ldCellH HRC rfl rfl rfl ?_))
  with_reducible refine (svp_v p.n.pk true h4 _).mono ?_
  rintro e v1 ⟨rfl,hb1⟩;clear x0 x1 x2 x4 x5 x6 x7 x8 x20 x21 HRP HRL HRC;replace HX:=hbk hb1 HX;replace HN:=hbk hb1 HN;replace HV:=hD (HV.out.keep hb1);replace HR:=hD (HR.out.keep hb1);replace HB:=hD (bkeep2 HB.out hb1);clear hb1;have hr:=nodeAt HN.out;obtain ⟨x0,x1,x2,x4,x5,x6,x7,x8,x20,x21⟩:=xs0_1_2_4_5_6_7_8_20_21 HN.out;have hrp:=node_pk hr;have hrl:=node_pl hr;have hrc:=node_ce hr
  simp only [Nat.zero_add] at hrp hrl hrc;have HRP:=hD hrp;have HRL:=hD hrl;have HRC:=hD hrc;clear hr hrp hrl hrc
  go_wp2_with (first|(refine ldPackH HRP rfl rfl rfl ?_)|(refine ldPlaceH HRL rfl rfl rfl ?_)|(refine ldCellH HRC rfl rfl rfl ?_))
  go_ret;exact ⟨rfl,HB.out⟩
 have e5:=neb_t h5
 cases h6:decide (p.n.pk.h=0)
 ·clear hb;have e6:=neb_f h6;have hr:=nodeAt HN.out;obtain ⟨x0,x1,x2,x4,x5,x6,x7,x8,x20,x21⟩:=xs0_1_2_4_5_6_7_8_20_21 HN.out;have hrp:=node_pk hr;have hrl:=node_pl hr;have hrc:=node_ce hr;simp only [Nat.zero_add] at hrp hrl hrc;have HRP:=hD hrp;have HRL:=hD hrl;have HRC:=hD hrc;clear hr hrp hrl hrc
  go_wp2_with (first|(refine ldPackH HRP rfl rfl rfl ?_)|(refine ldPlaceH HRL rfl rfl rfl ?_)|(refine ldCellH HRC rfl rfl rfl ?_))
  with_reducible refine (inRange_w _ 0 30 true _ h1).mono ?_
  rintro e wq ⟨rfl,rfl⟩
  go_wp2_with (first|(refine ldPackH HRP rfl rfl rfl ?_)|(refine ldPlaceH HRL rfl rfl rfl ?_)|(refine ldCellH HRC rfl rfl rfl ?_))
  with_reducible refine (inRange_w _ 0 30 true _ h2).mono ?_
  rintro e wq ⟨rfl,rfl⟩
  go_wp2_with (first|(refine ldPackH HRP rfl rfl rfl ?_)|(refine ldPlaceH HRL rfl rfl rfl ?_)|(refine ldCellH HRC rfl rfl rfl ?_))
  with_reducible refine (inRange_w _ 0 2 true _ h3).mono ?_
  rintro e wq ⟨rfl,rfl⟩
  go_wp2_with (first|(refine ldPackH HRP rfl rfl rfl ?_)|(refine ldPlaceH HRL rfl rfl rfl ?_)|(refine ldCellH HRC rfl rfl rfl ?_))
  with_reducible refine (svp_v p.n.pk true h4 _).mono ?_
  rintro e v1 ⟨rfl,hb1⟩;clear x0 x1 x2 x4 x5 x6 x7 x8 x20 x21 HRP HRL HRC;replace HX:=hbk hb1 HX;replace HN:=hbk hb1 HN;replace HV:=hD (HV.out.keep hb1);replace HR:=hD (HR.out.keep hb1);replace HB:=hD (bkeep2 HB.out hb1);clear hb1;have hr:=nodeAt HN.out;obtain ⟨x0,x1,x2,x4,x5,x6,x7,x8,x20,x21⟩:=xs0_1_2_4_5_6_7_8_20_21 HN.out;have hrp:=node_pk hr;have hrl:=node_pl hr;have hrc:=node_ce hr
  simp only [Nat.zero_add] at hrp hrl hrc;have HRP:=hD hrp;have HRL:=hD hrl;have HRC:=hD hrc;clear hr hrp hrl hrc
  go_wp2_with (first|(refine ldPackH HRP rfl rfl rfl ?_)|(refine ldPlaceH HRL rfl rfl rfl ?_)|(refine ldCellH HRC rfl rfl rfl ?_))
  go_ret;exact ⟨rfl,HB.out⟩
 have e6:=neb_t h6
 cases h7:plB p.n.pl
 ·clear hb;have hr:=nodeAt HN.out;obtain ⟨x0,x1,x2,x4,x5,x6,x7,x8,x20,x21⟩:=xs0_1_2_4_5_6_7_8_20_21 HN.out;have hrp:=node_pk hr;have hrl:=node_pl hr;have hrc:=node_ce hr;simp only [Nat.zero_add] at hrp hrl hrc;have HRP:=hD hrp;have HRL:=hD hrl;have HRC:=hD hrc;clear hr hrp hrl hrc
  go_wp2_with (first|(refine ldPackH HRP rfl rfl rfl ?_)|(refine ldPlaceH HRL rfl rfl rfl ?_)|(refine ldCellH HRC rfl rfl rfl ?_))
  with_reducible refine (inRange_w _ 0 30 true _ h1).mono ?_
  rintro e wq ⟨rfl,rfl⟩
  go_wp2_with (first|(refine ldPackH HRP rfl rfl rfl ?_)|(refine ldPlaceH HRL rfl rfl rfl ?_)|(refine ldCellH HRC rfl rfl rfl ?_))
  with_reducible refine (inRange_w _ 0 30 true _ h2).mono ?_
  rintro e wq ⟨rfl,rfl⟩
  go_wp2_with (first|(refine ldPackH HRP rfl rfl rfl ?_)|(refine ldPlaceH HRL rfl rfl rfl ?_)|(refine ldCellH HRC rfl rfl rfl ?_))
  with_reducible refine (inRange_w _ 0 2 true _ h3).mono ?_
  rintro e wq ⟨rfl,rfl⟩
  go_wp2_with (first|(refine ldPackH HRP rfl rfl rfl ?_)|(refine ldPlaceH HRL rfl rfl rfl ?_)|(refine ldCellH HRC rfl rfl rfl ?_))
  with_reducible refine (svp_v p.n.pk true h4 _).mono ?_
  rintro e v1 ⟨rfl,hb1⟩;clear x0 x1 x2 x4 x5 x6 x7 x8 x20 x21 HRP HRL HRC;replace HX:=hbk hb1 HX;replace HN:=hbk hb1 HN;replace HV:=hD (HV.out.keep hb1);replace HR:=hD (HR.out.keep hb1);replace HB:=hD (bkeep2 HB.out hb1);clear hb1;have hr:=nodeAt HN.out;obtain ⟨x0,x1,x2,x4,x5,x6,x7,x8,x20,x21⟩:=xs0_1_2_4_5_6_7_8_20_21 HN.out;have hrp:=node_pk hr;have hrl:=node_pl hr;have hrc:=node_ce hr
  simp only [Nat.zero_add] at hrp hrl hrc;have HRP:=hD hrp;have HRL:=hD hrl;have HRC:=hD hrc;clear hr hrp hrl hrc
  go_wp2_with (first|(refine ldPackH HRP rfl rfl rfl ?_)|(refine ldPlaceH HRL rfl rfl rfl ?_)|(refine ldCellH HRC rfl rfl rfl ?_))
  with_reducible refine (svalidPlace_t p.n.pl false _ h7).mono ?_
  rintro e v2 ⟨rfl,hb1⟩;clear x0 x1 x2 x4 x5 x6 x7 x8 x20 x21 HRP HRL HRC;replace HX:=hbk hb1 HX;replace HN:=hbk hb1 HN;replace HV:=hD (HV.out.keep hb1);replace HR:=hD (HR.out.keep hb1);replace HB:=hD (bkeep2 HB.out hb1);clear hb1;have hr:=nodeAt HN.out;obtain ⟨x0,x1,x2,x4,x5,x6,x7,x8,x20,x21⟩:=xs0_1_2_4_5_6_7_8_20_21 HN.out;have hrp:=node_pk hr;have hrl:=node_pl hr;have hrc:=node_ce hr
  simp only [Nat.zero_add] at hrp hrl hrc;have HRP:=hD hrp;have HRL:=hD hrl;have HRC:=hD hrc;clear hr hrp hrl hrc
  go_wp2_with (first|(refine ldPackH HRP rfl rfl rfl ?_)|(refine ldPlaceH HRL rfl rfl rfl ?_)|(refine ldCellH HRC rfl rfl rfl ?_))
  go_ret;exact ⟨rfl,HB.out⟩
 cases h8:decide (p.n.ce.cw=0)
 ·clear hb;have e8:=neb_f h8;have hr:=nodeAt HN.out;obtain ⟨x0,x1,x2,x4,x5,x6,x7,x8,x20,x21⟩:=xs0_1_2_4_5_6_7_8_20_21 HN.out;have hrp:=node_pk hr;have hrl:=node_pl hr;have hrc:=node_ce hr;simp only [Nat.zero_add] at hrp hrl hrc;have HRP:=hD hrp;have HRL:=hD hrl;have HRC:=hD hrc;clear hr hrp hrl hrc
  go_wp2_with (first|(refine ldPackH HRP rfl rfl rfl ?_)|(refine ldPlaceH HRL rfl rfl rfl ?_)|(refine ldCellH HRC rfl rfl rfl ?_))
  with_reducible refine (inRange_w _ 0 30 true _ h1).mono ?_
  rintro e wq ⟨rfl,rfl⟩
  go_wp2_with (first|(refine ldPackH HRP rfl rfl rfl ?_)|(refine ldPlaceH HRL rfl rfl rfl ?_)|(refine ldCellH HRC rfl rfl rfl ?_))
  with_reducible refine (inRange_w _ 0 30 true _ h2).mono ?_
  rintro e wq ⟨rfl,rfl⟩
  go_wp2_with (first|(refine ldPackH HRP rfl rfl rfl ?_)|(refine ldPlaceH HRL rfl rfl rfl ?_)|(refine ldCellH HRC rfl rfl rfl ?_))
  with_reducible refine (inRange_w _ 0 2 true _ h3).mono ?_
  rintro e wq ⟨rfl,rfl⟩
  go_wp2_with (first|(refine ldPackH HRP rfl rfl rfl ?_)|(refine ldPlaceH HRL rfl rfl rfl ?_)|(refine ldCellH HRC rfl rfl rfl ?_))
  with_reducible refine (svp_v p.n.pk true h4 _).mono ?_
  rintro e v1 ⟨rfl,hb1⟩;clear x0 x1 x2 x4 x5 x6 x7 x8 x20 x21 HRP HRL HRC;replace HX:=hbk hb1 HX;replace HN:=hbk hb1 HN;replace HV:=hD (HV.out.keep hb1);replace HR:=hD (HR.out.keep hb1);replace HB:=hD (bkeep2 HB.out hb1);clear hb1;have hr:=nodeAt HN.out;obtain ⟨x0,x1,x2,x4,x5,x6,x7,x8,x20,x21⟩:=xs0_1_2_4_5_6_7_8_20_21 HN.out;have hrp:=node_pk hr;have hrl:=node_pl hr;have hrc:=node_ce hr
  simp only [Nat.zero_add] at hrp hrl hrc;have HRP:=hD hrp;have HRL:=hD hrl;have HRC:=hD hrc;clear hr hrp hrl hrc
  go_wp2_with (first|(refine ldPackH HRP rfl rfl rfl ?_)|(refine ldPlaceH HRL rfl rfl rfl ?_)|(refine ldCellH HRC rfl rfl rfl ?_))
  with_reducible refine (svalidPlace_t p.n.pl true _ h7).mono ?_
  rintro e v2 ⟨rfl,hb1⟩;clear x0 x1 x2 x4 x5 x6 x7 x8 x20 x21 HRP HRL HRC;replace HX:=hbk hb1 HX;replace HN:=hbk hb1 HN;replace HV:=hD (HV.out.keep hb1);replace HR:=hD (HR.out.keep hb1);replace HB:=hD (bkeep2 HB.out hb1);clear hb1;have hr:=nodeAt HN.out;obtain ⟨x0,x1,x2,x4,x5,x6,x7,x8,x20,x21⟩:=xs0_1_2_4_5_6_7_8_20_21 HN.out;have hrp:=node_pk hr;have hrl:=node_pl hr;have hrc:=node_ce hr
  simp only [Nat.zero_add] at hrp hrl hrc;have HRP:=hD hrp;have HRL:=hD hrl;have HRC:=hD hrc;clear hr hrp hrl hrc
  go_wp2_with (first|(refine ldPackH HRP rfl rfl rfl ?_)|(refine ldPlaceH HRL rfl rfl rfl ?_)|(refine ldCellH HRC rfl rfl rfl ?_))
  go_ret;exact ⟨rfl,HB.out⟩
 have e8:=neb_t h8
 have h9:decide (p.n.ce.ch=0)=false:=by have:=hb;simp only [spB,h1,h2,h3,h4,h5,h6,h7,h8,Bool.true_and] at this;exact this
 clear hb;have e9:=neb_f h9;have hr:=nodeAt HN.out;obtain ⟨x0,x1,x2,x4,x5,x6,x7,x8,x20,x21⟩:=xs0_1_2_4_5_6_7_8_20_21 HN.out;have hrp:=node_pk hr;have hrl:=node_pl hr;have hrc:=node_ce hr;simp only [Nat.zero_add] at hrp hrl hrc;have HRP:=hD hrp;have HRL:=hD hrl;have HRC:=hD hrc;clear hr hrp hrl hrc
 go_wp2_with (first|(refine ldPackH HRP rfl rfl rfl ?_)|(refine ldPlaceH HRL rfl rfl rfl ?_)|(refine ldCellH HRC rfl rfl rfl ?_))
 with_reducible refine (inRange_w _ 0 30 true _ h1).mono ?_
 rintro e wq ⟨rfl,rfl⟩
 go_wp2_with (first|(refine ldPackH HRP rfl rfl rfl ?_)|(refine ldPlaceH HRL rfl rfl rfl ?_)|(refine ldCellH HRC rfl rfl rfl ?_))
 with_reducible refine (inRange_w _ 0 30 true _ h2).mono ?_
 rintro e wq ⟨rfl,rfl⟩
 go_wp2_with (first|(refine ldPackH HRP rfl rfl rfl ?_)|(refine ldPlaceH HRL rfl rfl rfl ?_)|(refine ldCellH HRC rfl rfl rfl ?_))
 with_reducible refine (inRange_w _ 0 2 true _ h3).mono ?_
 rintro e wq ⟨rfl,rfl⟩
 go_wp2_with (first|(refine ldPackH HRP rfl rfl rfl ?_)|(refine ldPlaceH HRL rfl rfl rfl ?_)|(refine ldCellH HRC rfl rfl rfl ?_))
 with_reducible refine (svp_v p.n.pk true h4 _).mono ?_
 rintro e v1 ⟨rfl,hb1⟩;clear x0 x1 x2 x4 x5 x6 x7 x8 x20 x21 HRP HRL HRC;replace HX:=hbk hb1 HX;replace HN:=hbk hb1 HN;replace HV:=hD (HV.out.keep hb1);replace HR:=hD (HR.out.keep hb1);replace HB:=hD (bkeep2 HB.out hb1);clear hb1;have hr:=nodeAt HN.out;obtain ⟨x0,x1,x2,x4,x5,x6,x7,x8,x20,x21⟩:=xs0_1_2_4_5_6_7_8_20_21 HN.out;have hrp:=node_pk hr;have hrl:=node_pl hr;have hrc:=node_ce hr
 simp only [Nat.zero_add] at hrp hrl hrc;have HRP:=hD hrp;have HRL:=hD hrl;have HRC:=hD hrc;clear hr hrp hrl hrc
 go_wp2_with (first|(refine ldPackH HRP rfl rfl rfl ?_)|(refine ldPlaceH HRL rfl rfl rfl ?_)|(refine ldCellH HRC rfl rfl rfl ?_))
 with_reducible refine (svalidPlace_t p.n.pl true _ h7).mono ?_
 rintro e v2 ⟨rfl,hb1⟩;clear x0 x1 x2 x4 x5 x6 x7 x8 x20 x21 HRP HRL HRC;replace HX:=hbk hb1 HX;replace HN:=hbk hb1 HN;replace HV:=hD (HV.out.keep hb1);replace HR:=hD (HR.out.keep hb1);replace HB:=hD (bkeep2 HB.out hb1);clear hb1;have hr:=nodeAt HN.out;obtain ⟨x0,x1,x2,x4,x5,x6,x7,x8,x20,x21⟩:=xs0_1_2_4_5_6_7_8_20_21 HN.out;have hrp:=node_pk hr;have hrl:=node_pl hr;have hrc:=node_ce hr
 simp only [Nat.zero_add] at hrp hrl hrc;have HRP:=hD hrp;have HRL:=hD hrl;have HRC:=hD hrc;clear hr hrp hrl hrc
 go_wp2_with (first|(refine ldPackH HRP rfl rfl rfl ?_)|(refine ldPlaceH HRL rfl rfl rfl ?_)|(refine ldCellH HRC rfl rfl rfl ?_))
 go_ret;exact ⟨rfl,HB.out⟩
theorem svalidNode_yes (A:Option Addr) (c:Nat) (R:List Nr) (i:Nat) (p:Nr) (b:Bool) (w:World) (h:NrV w A R) (hr:RdR w R) (hp:R[i]?=some p) (hL:R.length≤1048576) (hm:∀ p∈R,p.n.cs.length≤1048576∧p.n.rs.length≤1048576) (h0:spB p.n=true) (hb:(ownB p.n&&(upB i p.n&&clB (R.map Nr.n) i p.n))=b) :
  Calls Tryz.prog 70 #[.agg #[.slice A R.length c],.int .i64 i] w fun e w'=>e=.returned (.bool b)∧Below w.heap.size w w':=by
 have hi:i<R.length:=(List.getElem?_eq_some_iff.1 hp).1
 have hii:(i:Int)<(R.length:Int):=by omega
 have hmp:=hm p (List.mem_of_getElem? hp);obtain ⟨mp1,mp2⟩:=hmp;obtain ⟨bl,off,rfl,hbl,hc⟩:=h.cells (by omega);have hB0:Below w.heap.size w (w.alloc (.cells #[.slice (some ⟨bl,off,none⟩) R.length c] 30 (0,0))):=balloc (Below.refl _ _);have HX:=hD (newS w (.cells #[.slice (some ⟨bl,off,none⟩) R.length c] 30 (0,0)));have HLR:=hD (rangeB (hc i p hp) (hB0.block bl hbl));have HV:=hD (h.keep hB0)
 have HR:=hD (hr.keep hB0);have HB:=hD hB0;have HM:=hD hm;have HG:=hD hp;clear hc h hr hm hp hB0
 go_enter Tryz.func70,Tryz.ntmps70
 go_upto_region 2 with (first|(refine ldN _ p bl (off+i*34) rfl rfl rfl HLR.out ?_)|(refine stN (.tmp 5) (.tmp 11) p (w.heap.size+1) 0 rfl rfl rfl rfl (newS1T _ _ _) (by show (0+34:Nat)≤34;omega) ?_))
 refine wp_genGG (fun W=>W.heap[w.heap.size]?=some (.cells #[.slice (some ⟨bl,off,none⟩) R.length c] 30 (0,0))∧W.heap[w.heap.size+1]?=some (.cells (valsNr p).toArray 90 (0,0))∧NrV W (some ⟨bl,off,none⟩) R∧RdR W R∧Below w.heap.size w W) ?hw (fun W h0=>?_)
 case hw =>
  have hbb:Below (w.alloc (.cells #[.slice (some ⟨bl,off,none⟩) R.length c] 30 (0,0))).heap.size (w.alloc (.cells #[.slice (some ⟨bl,off,none⟩) R.length c] 30 (0,0))) (((w.alloc (.cells #[.slice (some ⟨bl,off,none⟩) R.length c] 30 (0,0))).alloc (.cells #[.int .i64 0,.int .i64 0,.int .i64 0,.bool false,.int .i64 0,.slice none 0 0,.slice none 0 0,.int .i64 0,.int .i64 0,.int .i64 0,.bool false,.bool false,.bool false,.int .i64 0,.int .i64 0,.int .i64 0,.int .i64 0,.int .i64 0,.int .i64 0,.int .i64 0,.int .i64 0,.int .i64 0,.int .i64 0,.int .i64 0,.int .i64 0,.int .i64 0,.int .i64 0,.int .i64 0,.int .i64 0,.int .i64 0,.int .i64 0,.int .i64 0,.int .i64 0,.int .i64 0] 90)).setCells (w.heap.size+1) 0 (valsNr p)):=below_setCells (by simp) _ _ _ (balloc (Below.refl _ _))
  exact ⟨(hbb.block _ (ltS HX.out)).trans HX.out,by rw [heap_setCells (valsNr p) 0 _ _ (newS1T w _ _),wrAt_all (by rfl)],HV.out.keep hbb,HR.out.keep hbb,bkeep2 HB.out hbb⟩
 clear HX HLR HV HR HB;obtain ⟨hx,hn,hv,hr,hb0⟩:=h0;have HX:=hD hx;have HN:=hD hn;have HV:=hD hv;have HR:=hD hr;have HB:=hD hb0;clear hx hn hv hr hb0;simp only [spB,Bool.and_eq_true] at h0;obtain ⟨h1,h2,h3,h4,h5,h6,h7,h8,h9⟩:=h0;have e5:=neb_t h5;have e6:=neb_t h6;have e8:=neb_t h8;have e9:=neb_t h9;have HBB:=hD hb;clear hb;have hr:=nodeAt HN.out
 obtain ⟨x0,x1,x2,x4,x5,x6,x7,x8,x20,x21⟩:=xs0_1_2_4_5_6_7_8_20_21 HN.out;have hrp:=node_pk hr;have hrl:=node_pl hr;have hrc:=node_ce hr;simp only [Nat.zero_add] at hrp hrl hrc;have HRP:=hD hrp;have HRL:=hD hrl;have HRC:=hD hrc;clear hr hrp hrl hrc
 go_wp2_with (first|(refine ldPackH HRP rfl rfl rfl ?_)|(refine ldPlaceH HRL rfl rfl rfl ?_)|(refine ldCellH HRC rfl rfl rfl ?_))
 with_reducible refine (inRange_w _ 0 30 true _ h1).mono ?_
 rintro e wq ⟨rfl,rfl⟩
 go_wp2_with (first|(refine ldPackH HRP rfl rfl rfl ?_)|(refine ldPlaceH HRL rfl rfl rfl ?_)|(refine ldCellH HRC rfl rfl rfl ?_))
 with_reducible refine (inRange_w _ 0 30 true _ h2).mono ?_
 rintro e wq ⟨rfl,rfl⟩
 go_wp2_with (first|(refine ldPackH HRP rfl rfl rfl ?_)|(refine ldPlaceH HRL rfl rfl rfl ?_)|(refine ldCellH HRC rfl rfl rfl ?_))
 with_reducible refine (inRange_w _ 0 2 true _ h3).mono ?_
 rintro e wq ⟨rfl,rfl⟩
 go_wp2_with (first|(refine ldPackH HRP rfl rfl rfl ?_)|(refine ldPlaceH HRL rfl rfl rfl ?_)|(refine ldCellH HRC rfl rfl rfl ?_))
 with_reducible refine (svp_v p.n.pk true h4 _).mono ?_
 rintro e v1 ⟨rfl,hb1⟩;clear x0 x1 x2 x4 x5 x6 x7 x8 x20 x21 HRP HRL HRC;replace HX:=hbk hb1 HX;replace HN:=hbk hb1 HN;replace HV:=hD (HV.out.keep hb1);replace HR:=hD (HR.out.keep hb1);replace HB:=hD (bkeep2 HB.out hb1);clear hb1;have hr:=nodeAt HN.out;obtain ⟨x0,x1,x2,x4,x5,x6,x7,x8,x20,x21⟩:=xs0_1_2_4_5_6_7_8_20_21 HN.out;have hrp:=node_pk hr;have hrl:=node_pl hr;have hrc:=node_ce hr
 simp only [Nat.zero_add] at hrp hrl hrc;have HRP:=hD hrp;have HRL:=hD hrl;have HRC:=hD hrc;clear hr hrp hrl hrc
 go_wp2_with (first|(refine ldPackH HRP rfl rfl rfl ?_)|(refine ldPlaceH HRL rfl rfl rfl ?_)|(refine ldCellH HRC rfl rfl rfl ?_))
 with_reducible refine (svalidPlace_t p.n.pl true _ h7).mono ?_
 rintro e v2 ⟨rfl,hb1⟩;clear x0 x1 x2 x4 x5 x6 x7 x8 x20 x21 HRP HRL HRC;replace HX:=hbk hb1 HX;replace HN:=hbk hb1 HN;replace HV:=hD (HV.out.keep hb1);replace HR:=hD (HR.out.keep hb1);replace HB:=hD (bkeep2 HB.out hb1);clear hb1;have hr:=nodeAt HN.out;obtain ⟨x0,x1,x2,x4,x5,x6,x7,x8,x20,x21⟩:=xs0_1_2_4_5_6_7_8_20_21 HN.out;have hrp:=node_pk hr;have hrl:=node_pl hr;have hrc:=node_ce hr
 simp only [Nat.zero_add] at hrp hrl hrc;have HRP:=hD hrp;have HRL:=hD hrl;have HRC:=hD hrc;clear hr hrp hrl hrc;clear h1 h2 h3 h4 h5 h6 h7 h8 h9;unfold ownB at HBB
 go_upto_region 4 with ((first|(refine ldPackH HRP rfl rfl rfl ?_)|(refine ldPlaceH HRL rfl rfl rfl ?_)|(refine ldCellH HRC rfl rfl rfl ?_)))
 by_cases hk:p.n.ki=1
 ·rw [if_pos hk] at HBB;rw [hk] at x4;have HK:=hD hk;clear hk
  cases g1:linesB p.n.cs
  ·obtain rfl:false=b:=by rw [<- HBB.out,g1];rfl
   have HPC:=hD (HR.out p (List.mem_of_getElem? HG.out))
   go_wp2_with fail
   with_reducible refine (svalidLines_v p.ca p.cc p.n.cs false _ HPC.out.c mp1 g1).mono ?_
   rintro e u1 ⟨rfl,hb1⟩;clear x0 x1 x2 x4 x5 x6 x7 x8 x20 x21 HRP HRL HRC;replace HB:=hD (bkeep2 HB.out hb1);clear hb1;go_wp2;go_ret;exact ⟨rfl,HB.out⟩
  ·cases g2:linesB p.n.rs
   ·obtain rfl:false=b:=by rw [<- HBB.out,g1,g2];rfl
    have HPC:=hD (HR.out p (List.mem_of_getElem? HG.out))
    go_wp2_with fail
    with_reducible refine (svalidLines_v p.ca p.cc p.n.cs true _ HPC.out.c mp1 g1).mono ?_
    rintro e u1 ⟨rfl,hb1⟩;clear x0 x1 x2 x4 x5 x6 x7 x8 x20 x21 HRP HRL HRC;replace HX:=hbk hb1 HX;replace HN:=hbk hb1 HN;replace HV:=hD (HV.out.keep hb1);replace HR:=hD (HR.out.keep hb1);replace HB:=hD (bkeep2 HB.out hb1);clear hb1;have hr:=nodeAt HN.out;obtain ⟨x0,x1,x2,x4,x5,x6,x7,x8,x20,x21⟩:=xs0_1_2_4_5_6_7_8_20_21 HN.out;have hrp:=node_pk hr;have hrl:=node_pl hr;have hrc:=node_ce hr
    simp only [Nat.zero_add] at hrp hrl hrc;have HRP:=hD hrp;have HRL:=hD hrl;have HRC:=hD hrc;clear hr hrp hrl hrc;rw [HK.out] at x4;have HPC:=hD (HR.out p (List.mem_of_getElem? HG.out))
    go_wp2_with fail
    with_reducible refine (svalidLines_v p.ra p.rc p.n.rs false _ HPC.out.r mp2 g2).mono ?_
    rintro e u2 ⟨rfl,hb1⟩;clear x0 x1 x2 x4 x5 x6 x7 x8 x20 x21 HRP HRL HRC;replace HX:=hbk hb1 HX;replace HN:=hbk hb1 HN;replace HV:=hD (HV.out.keep hb1);replace HR:=hD (HR.out.keep hb1);replace HB:=hD (bkeep2 HB.out hb1);clear hb1;have hr:=nodeAt HN.out;obtain ⟨x0,x1,x2,x4,x5,x6,x7,x8,x20,x21⟩:=xs0_1_2_4_5_6_7_8_20_21 HN.out;have hrp:=node_pk hr;have hrl:=node_pl hr;have hrc:=node_ce hr
    simp only [Nat.zero_add] at hrp hrl hrc;have HRP:=hD hrp;have HRL:=hD hrl;have HRC:=hD hrc;clear hr hrp hrl hrc;rw [HK.out] at x4;go_wp2;go_ret;exact ⟨rfl,HB.out⟩
   ·have hb2:(upB i p.n&&clB (R.map Nr.n) i p.n)=b:=by rw [<- HBB.out,g1,g2];rfl
    have HB2:=hD hb2;clear hb2 HBB;have HPC:=hD (HR.out p (List.mem_of_getElem? HG.out))
    go_wp2_with fail
    with_reducible refine (svalidLines_v p.ca p.cc p.n.cs true _ HPC.out.c mp1 g1).mono ?_
    rintro e u1 ⟨rfl,hb1⟩;clear x0 x1 x2 x4 x5 x6 x7 x8 x20 x21 HRP HRL HRC;replace HX:=hbk hb1 HX;replace HN:=hbk hb1 HN;replace HV:=hD (HV.out.keep hb1);replace HR:=hD (HR.out.keep hb1);replace HB:=hD (bkeep2 HB.out hb1);clear hb1;have hr:=nodeAt HN.out;obtain ⟨x0,x1,x2,x4,x5,x6,x7,x8,x20,x21⟩:=xs0_1_2_4_5_6_7_8_20_21 HN.out;have hrp:=node_pk hr;have hrl:=node_pl hr;have hrc:=node_ce hr
    simp only [Nat.zero_add] at hrp hrl hrc;have HRP:=hD hrp;have HRL:=hD hrl;have HRC:=hD hrc;clear hr hrp hrl hrc;rw [HK.out] at x4;have HPC:=hD (HR.out p (List.mem_of_getElem? HG.out))
    go_wp2_with fail
    with_reducible refine (svalidLines_v p.ra p.rc p.n.rs true _ HPC.out.r mp2 g2).mono ?_
    rintro e u2 ⟨rfl,hb1⟩;clear x0 x1 x2 x4 x5 x6 x7 x8 x20 x21 HRP HRL HRC;replace HX:=hbk hb1 HX;replace HN:=hbk hb1 HN;replace HV:=hD (HV.out.keep hb1);replace HR:=hD (HR.out.keep hb1);replace HB:=hD (bkeep2 HB.out hb1);clear hb1;have hr:=nodeAt HN.out;obtain ⟨x0,x1,x2,x4,x5,x6,x7,x8,x20,x21⟩:=xs0_1_2_4_5_6_7_8_20_21 HN.out;have hrp:=node_pk hr;have hrl:=node_pl hr;have hrc:=node_ce hr
    simp only [Nat.zero_add] at hrp hrl hrc;have HRP:=hD hrp;have HRL:=hD hrl;have HRC:=hD hrc;clear hr hrp hrl hrc;rw [HK.out] at x4
    go_upto_region 6 with (fail)
    by_cases hz:i=0
    ·subst hz
     have hbz:(p.n.pa == -1)=b:=by rw [<- HB2.out];simp only [upB,clB,if_true,Bool.and_true];rfl
     have HBZ:=hD hbz;clear hbz HB2;go_wp2;go_ret;exact ⟨ret_bool HBZ.out,HB.out⟩
    ·have z0:((i:Int) == 0)=false:=by rw [beq_eq_false_iff_ne];omega
     have z1:decide ((i:Int)=0)=false:=decide_eq_false (by omega)
     cases hu:upB i p.n
     ·obtain rfl:false=b:=by rw [<- HB2.out,hu];rfl
      have hu2:rng p.n.pa 0 ((i:Int)-1)=false:=by have:=hu;unfold upB at this;rwa [if_neg hz] at this
      go_wp2_with fail
      with_reducible refine (inRange_w p.n.pa 0 ((i:Int)-1) false _ hu2).mono ?_
      rintro e wq ⟨rfl,rfl⟩;go_wp2;go_ret;exact ⟨rfl,HB.out⟩
     ·have hu2:rng p.n.pa 0 ((i:Int)-1)=true:=by have:=hu;unfold upB at this;rwa [if_neg hz] at this
      have hb3:clB (R.map Nr.n) i p.n=b:=by rw [<- HB2.out,hu];rfl
      obtain ⟨m,hpm⟩:=Int.eq_ofNat_of_zero_le (rng_iff.1 hu2).1
      have hmi:m<i:=by have:=(rng_iff.1 hu2).2;omega
      have hml:m<R.length:=by omega
      have hmu:R[m]?=some R[m]:=List.getElem?_eq_getElem hml;unfold clB at hb3;rw [if_neg hz,hpm] at hb3;simp only [Int.toNat_natCast] at hb3;rw [List.getElem?_map,hmu] at hb3;simp only [Option.map_some] at hb3;have hmm:=HM.out _ (List.mem_of_getElem? hmu);generalize R[m]=u at *;obtain ⟨mu1,mu2⟩:=hmm;obtain ⟨bl2,off2,e9,hbl2,hcu⟩:=HV.out.cells (by omega)
      cases e9
      have HU:=hD (hcu m u hmu);have HB3:=hD hb3
      have hmr:(m:Int)<(R.length:Int):=by omega
      rw [hpm] at x0 hu2;have hx0:=cellS HX.out 0;clear hcu hmu hb3 HB2 hu hpm
      go_wp2_with fail
      with_reducible refine (inRange_w (m:Int) 0 ((i:Int)-1) true _ hu2).mono ?_
      rintro e wq ⟨rfl,rfl⟩;have hsz:w.heap.size+1<u2.heap.size:=ltS HN.out
      go_upto_region 11 with (first|(refine ldN _ u bl (off+m*34) rfl rfl rfl HU.out ?_)|(refine stN (.tmp 6) (.tmp 112) u u2.heap.size 0 rfl rfl rfl rfl (newS _ _) (by show (0+34:Nat)≤34;omega) ?_))
      refine wp_genGG (fun W=>W.heap[u2.heap.size]?=some (.cells (valsNr u).toArray 90 (0,0))∧Below u2.heap.size u2 W) ⟨new_full u rfl rfl,below_setCells (Nat.le_refl _) _ _ _ (balloc (Below.refl _ _))⟩ (fun W9 h9=>?_);obtain ⟨hn9,hb9⟩:=h9;have HN9:=hD hn9;clear x0 x1 x2 x4 x5 x6 x7 x8 x20 x21 HRP HRL HRC hx0;replace HX:=hbk hb9 HX;replace HN:=hbk hb9 HN;replace HB:=hD (bkeep2 HB.out hb9)
      clear hb9;have y4:W9.cell? ⟨u2.heap.size,4,none⟩=some (.int .i64 u.n.ki):=cellS HN9.out 4;have y5:W9.cell? ⟨u2.heap.size,5,none⟩=some (.slice u.ca u.n.cs.length u.cc):=cellS HN9.out 5;have y6:W9.cell? ⟨u2.heap.size,6,none⟩=some (.slice u.ra u.n.rs.length u.rc):=cellS HN9.out 6;clear hn9
      by_cases hq:u.n.ki=1
      ·rw [hq] at y4
       have hcb:cellB u.n.cs.length u.n.rs.length p.n.ce=b:=by rw [<- HB3.out];simp [hq]
       have HCB:=hD hcb;have hrc:=node_ce (nodeAt HN.out);simp only [Nat.zero_add] at hrc;have HRC:=hD hrc;clear hq hcb HB3 hrc
       go_wp2_with (refine ldCellH HRC rfl rfl rfl ?_)
       with_reducible refine (svalidCell_v p.n.ce u.n.cs.length u.n.rs.length 0 u.cc u.rc 0 u.ca u.ra none b _ mu1 mu2 HCB.out).mono ?_
       rintro e u9 ⟨rfl,hbu⟩;clear y4 y5 y6 HRC;replace HB:=hD (bkeep2 HB.out hbu);clear hbu;go_wp2;go_ret;exact ⟨rfl,HB.out⟩
      ·obtain rfl:true=b:=by rw [<- HB3.out];simp [hq]
       have f9:(u.n.ki == 1)=false:=by rw [beq_eq_false_iff_ne];exact hq
       have f8:(u.n.ki != 1)=true:=by simp [bne,f9]
       have f7:decide (u.n.ki=1)=false:=decide_eq_false hq;have HQ:=hD hq;clear hq;go_wp2;go_ret;exact ⟨rfl,HB.out⟩
 ·rw [if_neg hk] at HBB
  have f1:(p.n.ki == 1)=false:=by rw [beq_eq_false_iff_ne];exact hk
  have f2:(p.n.ki != 1)=true:=by simp [bne,f1]
  have f1':decide (p.n.ki=1)=false:=decide_eq_false hk;have HK:=hD hk;clear hk
  by_cases g1:p.n.cs.length=0
  ·rw [g1] at x5
   by_cases g2:p.n.rs.length=0
   ·rw [g2] at x6
    have hb2:(upB i p.n&&clB (R.map Nr.n) i p.n)=b:=by rw [<- HBB.out,decide_eq_true g1,decide_eq_true g2];rfl
    have HB2:=hD hb2;clear hb2 HBB g1 g2
    go_upto_region 6 with (fail)
    by_cases hz:i=0
    ·subst hz
     have hbz:(p.n.pa == -1)=b:=by rw [<- HB2.out];simp only [upB,clB,if_true,Bool.and_true];rfl
     have HBZ:=hD hbz;clear hbz HB2;go_wp2;go_ret;exact ⟨ret_bool HBZ.out,HB.out⟩
    ·have z0:((i:Int) == 0)=false:=by rw [beq_eq_false_iff_ne];omega
     have z1:decide ((i:Int)=0)=false:=decide_eq_false (by omega)
     cases hu:upB i p.n
     ·obtain rfl:false=b:=by rw [<- HB2.out,hu];rfl
      have hu2:rng p.n.pa 0 ((i:Int)-1)=false:=by have:=hu;unfold upB at this;rwa [if_neg hz] at this
      go_wp2_with fail
      with_reducible refine (inRange_w p.n.pa 0 ((i:Int)-1) false _ hu2).mono ?_
      rintro e wq ⟨rfl,rfl⟩;go_wp2;go_ret;exact ⟨rfl,HB.out⟩
     ·have hu2:rng p.n.pa 0 ((i:Int)-1)=true:=by have:=hu;unfold upB at this;rwa [if_neg hz] at this
      have hb3:clB (R.map Nr.n) i p.n=b:=by rw [<- HB2.out,hu];rfl
      obtain ⟨m,hpm⟩:=Int.eq_ofNat_of_zero_le (rng_iff.1 hu2).1
      have hmi:m<i:=by have:=(rng_iff.1 hu2).2;omega
      have hml:m<R.length:=by omega
      have hmu:R[m]?=some R[m]:=List.getElem?_eq_getElem hml;unfold clB at hb3;rw [if_neg hz,hpm] at hb3;simp only [Int.toNat_natCast] at hb3;rw [List.getElem?_map,hmu] at hb3;simp only [Option.map_some] at hb3;have hmm:=HM.out _ (List.mem_of_getElem? hmu);generalize R[m]=u at *;obtain ⟨mu1,mu2⟩:=hmm;obtain ⟨bl2,off2,e9,hbl2,hcu⟩:=HV.out.cells (by omega)
      cases e9
      have HU:=hD (hcu m u hmu);have HB3:=hD hb3
      have hmr:(m:Int)<(R.length:Int):=by omega
      rw [hpm] at x0 hu2;have hx0:=cellS HX.out 0;clear hcu hmu hb3 HB2 hu hpm
      go_wp2_with fail
      with_reducible refine (inRange_w (m:Int) 0 ((i:Int)-1) true _ hu2).mono ?_
      rintro e wq ⟨rfl,rfl⟩;have hsz:w.heap.size+1<v2.heap.size:=ltS HN.out
      go_upto_region 11 with (first|(refine ldN _ u bl (off+m*34) rfl rfl rfl HU.out ?_)|(refine stN (.tmp 6) (.tmp 112) u v2.heap.size 0 rfl rfl rfl rfl (newS _ _) (by show (0+34:Nat)≤34;omega) ?_))
      refine wp_genGG (fun W=>W.heap[v2.heap.size]?=some (.cells (valsNr u).toArray 90 (0,0))∧Below v2.heap.size v2 W) ⟨new_full u rfl rfl,below_setCells (Nat.le_refl _) _ _ _ (balloc (Below.refl _ _))⟩ (fun W9 h9=>?_);obtain ⟨hn9,hb9⟩:=h9;have HN9:=hD hn9;clear x0 x1 x2 x4 x5 x6 x7 x8 x20 x21 HRP HRL HRC hx0;replace HX:=hbk hb9 HX;replace HN:=hbk hb9 HN;replace HB:=hD (bkeep2 HB.out hb9)
      clear hb9;have y4:W9.cell? ⟨v2.heap.size,4,none⟩=some (.int .i64 u.n.ki):=cellS HN9.out 4;have y5:W9.cell? ⟨v2.heap.size,5,none⟩=some (.slice u.ca u.n.cs.length u.cc):=cellS HN9.out 5;have y6:W9.cell? ⟨v2.heap.size,6,none⟩=some (.slice u.ra u.n.rs.length u.rc):=cellS HN9.out 6;clear hn9
      by_cases hq:u.n.ki=1
      ·rw [hq] at y4
       have hcb:cellB u.n.cs.length u.n.rs.length p.n.ce=b:=by rw [<- HB3.out];simp [hq]
       have HCB:=hD hcb;have hrc:=node_ce (nodeAt HN.out);simp only [Nat.zero_add] at hrc;have HRC:=hD hrc;clear hq hcb HB3 hrc
       go_wp2_with (refine ldCellH HRC rfl rfl rfl ?_)
       with_reducible refine (svalidCell_v p.n.ce u.n.cs.length u.n.rs.length 0 u.cc u.rc 0 u.ca u.ra none b _ mu1 mu2 HCB.out).mono ?_
       rintro e u9 ⟨rfl,hbu⟩;clear y4 y5 y6 HRC;replace HB:=hD (bkeep2 HB.out hbu);clear hbu;go_wp2;go_ret;exact ⟨rfl,HB.out⟩
      ·obtain rfl:true=b:=by rw [<- HB3.out];simp [hq]
       have f9:(u.n.ki == 1)=false:=by rw [beq_eq_false_iff_ne];exact hq
       have f8:(u.n.ki != 1)=true:=by simp [bne,f9]
       have f7:decide (u.n.ki=1)=false:=decide_eq_false hq;have HQ:=hD hq;clear hq;go_wp2;go_ret;exact ⟨rfl,HB.out⟩
   ·have k2:decide ((0:Int)<((p.n.rs.length:Nat):Int))=true:=decide_eq_true (by omega)
    have k2n:0<p.n.rs.length:=by omega
    obtain rfl:false=b:=by rw [<- HBB.out,decide_eq_false g2,Bool.and_false];rfl
    clear g1 g2;go_wp2;go_ret;exact ⟨rfl,HB.out⟩
  ·have k1:decide ((0:Int)<((p.n.cs.length:Nat):Int))=true:=decide_eq_true (by omega)
   have k1n:0<p.n.cs.length:=by omega
   obtain rfl:false=b:=by rw [<- HBB.out,decide_eq_false g1,Bool.false_and];rfl
   clear g1;go_wp2;go_ret;exact ⟨rfl,HB.out⟩
theorem svalidTree_v (A:Option Addr) (c:Nat) (R:List Nr) (b:Bool) (w:World) (h:NrV w A R) (hr:RdR w R) (hL:R.length≤1048576) (hm:∀ p∈R,p.n.cs.length≤1048576∧p.n.rs.length≤1048576) (hb:treeB (R.map Nr.n)=b) :
  Calls Tryz.prog 43 #[.agg #[.slice A R.length c]] w fun e w'=>e=.returned (.bool b)∧Below w.heap.size w w':=by
 have hB0:Below w.heap.size w (w.alloc (.cells #[.slice A R.length c] 30 (0,0))):=balloc (Below.refl _ _);have HX:=hD (newS w (.cells #[.slice A R.length c] 30 (0,0)));have HB:=hD hB0;have HV:=hD (h.keep hB0);have HR:=hD (hr.keep hB0);have HM:=hD hm;have HBB:=hD hb;clear hB0 h hr hm hb
 go_enter Tryz.func43,Tryz.ntmps43
 go_wp2_with fail
 go_loopw [3] (fun i wr=>∃ k:Nat,k≤R.length∧i=.int .i64 k∧(List.range k).all (nokB (R.map Nr.n))=true∧wr.heap[w.heap.size]?=some (.cells #[.slice A R.length c] 30 (0,0))∧NrV wr A R∧RdR wr R∧Below w.heap.size w wr) (fun i _=>R.length-(intOf i).toNat)
 case atStart=>exact ⟨0,by omega,rfl,rfl,HX.out,HV.out,HR.out,HB.out⟩
 case round =>
  obtain ⟨k,hk,rfl,hall,hx,hv,hr,hB⟩:=hrel;clear HX HV HR HB;have hx0:=cellS hx 0;have lx:=ltS hx;have HX:=hD hx;have HV:=hD hv;have HR:=hD hr;have HB:=hD hB;have HALL:=hD hall;clear hx hv hr hB hall
  by_cases hlt:k<R.length
  ·have hd:decide ((k:Int)<(R.length:Int))=true:=by simpa using hlt
   have hget:R[k]?=some R[k]:=List.getElem?_eq_getElem hlt;generalize R[k]=p at *;have hnb:nokB (R.map Nr.n) k=(ndB p.n&&(upB k p.n&&clB (R.map Nr.n) k p.n)):=nokB_at (by rw [List.getElem?_map,hget];rfl);rw [nd_sp] at hnb;have HNB:=hD hnb;have HG:=hD hget;clear hnb hget
   have hcv:∀ cb,nokB (R.map Nr.n) k=cb→Calls Tryz.prog 70 #[.agg #[.slice A R.length c],.int .i64 k] wr fun e w'=>e=.returned (.bool cb)∧Below wr.heap.size wr w':=by
    intro cb hcb;rw [HNB.out] at hcb
    cases h0:spB p.n
    ·obtain rfl:false=cb:=by rw [<- hcb,h0];rfl
     exact svalidNode_no A c R k p _ HV.out HR.out HG.out hL HM.out h0
    ·exact svalidNode_yes A c R k p cb _ HV.out HR.out HG.out hL HM.out h0 (by rw [<- hcb,h0,Bool.true_and])
   cases h1:nokB (R.map Nr.n) k
   ·have HC:=hD (hcv false h1);clear hcv HNB
    go_wp2_with fail
    with_reducible refine (HC.out).mono ?_
    rintro e w1 ⟨rfl,hb⟩;clear hx0 HC;replace HB:=hD (bkeep2 HB.out hb);clear hb;have HH1:=hD h1;clear h1;go_wp2;go_ret;refine ⟨ret_bool ?_,HB.out⟩;rw [<- HBB.out];unfold treeB;rw [List.length_map,all_falseG (k:=k) (p:=k) (by rw [List.getElem?_range (by omega)]) HH1.out,Bool.and_false]
   ·have HC:=hD (hcv true h1);clear hcv HNB
    go_wp2_with fail
    with_reducible refine (HC.out).mono ?_
    rintro e w1 ⟨rfl,hb⟩;clear hx0 HC;replace HX:=hbk hb HX;replace HV:=hD (HV.out.keep hb);replace HR:=hD (HR.out.keep hb);replace HB:=hD (bkeep2 HB.out hb);clear hb;have HH1:=hD h1;clear h1;go_wp2
    go_roundw
    case rel=>exact ⟨k+1,by omega,by go_num,by rw [range_all_succ,HALL.out,HH1.out];rfl,HX.out,HV.out,HR.out,HB.out⟩
    case measure=>simp [intOf];omega
  ·have hd:decide ((k:Int)<(R.length:Int))=false:=decide_eq_false (by omega)
   obtain rfl:k=R.length:=by omega
   cases hl:rng R.length 1 10
   ·obtain rfl:false=b:=by rw [<- HBB.out];unfold treeB;rw [List.length_map,hl];rfl
    go_wp2_with fail
    with_reducible refine (inRange_w _ 1 10 false _ hl).mono ?_
    rintro e wq ⟨rfl,rfl⟩;go_wp2;go_ret;exact ⟨rfl,HB.out⟩
   ·obtain rfl:true=b:=by rw [<- HBB.out];unfold treeB;rw [List.length_map,hl,HALL.out];rfl
    go_wp2_with fail
    with_reducible refine (inRange_w _ 1 10 true _ hl).mono ?_
    rintro e wq ⟨rfl,rfl⟩;go_wp2;go_ret;exact ⟨rfl,HB.out⟩
theorem ValidTree_n (A:Option Addr) (c k:Nat) (R:List Nr) (b:Bool) (w:World) (hk:k=R.length) (h:NrV w A R) (hr:RdR w R) (hL:R.length≤1048576) (hm:∀ p∈R,p.n.cs.length≤1048576∧p.n.rs.length≤1048576) (hb:treeB (R.map Nr.n)=b) :
  Calls Tryz.prog 58 #[.agg #[.slice A k c]] w fun e w'=>e=.returned (.bool b)∧Below w.heap.size w w':=by
 subst hk;exact ValidTree_v A c R b w h hr hL hm hb
theorem svalidTree_n (A:Option Addr) (c k:Nat) (R:List Nr) (b:Bool) (w:World) (hk:k=R.length) (h:NrV w A R) (hr:RdR w R) (hL:R.length≤1048576) (hm:∀ p∈R,p.n.cs.length≤1048576∧p.n.rs.length≤1048576) (hb:treeB (R.map Nr.n)=b) :
  Calls Tryz.prog 43 #[.agg #[.slice A k c]] w fun e w'=>e=.returned (.bool b)∧Below w.heap.size w w':=by
 subst hk;exact svalidTree_v A c R b w h hr hL hm hb

theorem trOK_of {L:List Nd} (h:treeB L=true):TrOK L where
 l1:=(tree_len h).1
 l10:=(tree_len h).2
 up:=fun k n hn=>by
  obtain ⟨_,hu,_⟩:=tree_nok h hn;unfold upB at hu
  split at hu
  ·rename_i e;exact .inl ⟨e,by simpa using hu⟩
  ·rename_i e;rw [rng_iff] at hu;right;omega
 sz:=fun k n hn=>by
  obtain ⟨hd,_,_⟩:=tree_nok h hn;simp only [ndB,Bool.and_eq_true,rng_iff] at hd;obtain ⟨⟨h1,h2⟩,h3,_⟩:=hd;exact ⟨h1,h2,by omega⟩
 pk:=fun k n hn=>by
  obtain ⟨hd,_,_⟩:=tree_nok h hn;simp only [ndB,Bool.and_eq_true] at hd;exact hd.2.2.2.1
 pl:=fun k n hn=>by
  obtain ⟨hd,_,_⟩:=tree_nok h hn;simp only [ndB,Bool.and_eq_true] at hd;exact hd.2.2.2.2.2.2.2.2
 li:=fun k n hn h1=>own_lines (tree_nok h hn).1 h1
 ce:=fun k n u hn h0 hu h1=>by
  obtain ⟨_,_,hc⟩:=tree_nok h hn;unfold clB at hc;rw [if_neg (by omega),hu] at hc
  simpa [h1] using hc
def WsV (lo:Nat) (w:World) (R:List Nr) (v:Value):Prop:=∃ g:Nat,v=.slice (some ⟨g,0,none⟩) R.length R.length∧lo≤g∧RbK 2 w g 96 ((List.range R.length).map fun k=>valsWi (szM (R.map Nr.n) k))
theorem WsV.keep {lo:Nat} {w w':World} {R:List Nr} {v:Value} (h:WsV lo w R v) (hb:Below w.heap.size w w'):WsV lo w' R v:=let ⟨g,e,hl,k⟩:=h;⟨g,e,hl,k.keep hb⟩
theorem WsV.mono {lo lo':Nat} {w:World} {R:List Nr} {v:Value} (h:WsV lo w R v) (hl:lo'≤lo):WsV lo' w R v:=let ⟨g,e,h1,k⟩:=h;⟨g,e,by omega,k⟩
def rqM (L:List Nd) (i:Int):Int × Int:=if (treeB L&&rng i 0 ((L.length:Int)-1))=true then szM L i.toNat else (-1,-1)
theorem WsV.at {lo:Nat} {w:World} {R:List Nr} {g:Nat} (h:RbK 2 w g 96 ((List.range R.length).map fun k=>valsWi (szM (R.map Nr.n) k))) {j:Nat} (hj:j<R.length):w.cell? ⟨g,j*2,none⟩=some (.int .i64 (szM (R.map Nr.n) j).1)∧w.cell? ⟨g,j*2+1,none⟩=some (.int .i64 (szM (R.map Nr.n) j).2):=by
 obtain ⟨cs,hh,hs,hc⟩:=h
 have:=hc j (valsWi (szM (R.map Nr.n) j)) (by simpa using hj) (by rw [List.getElem?_map,List.getElem?_range hj];rfl)
 exact ⟨(cellS hh _).trans (this 0 _ rfl),(cellS hh _).trans (this 1 _ rfl)⟩
def GRB (lo:Nat) (w:World) (x:Value) (M:List Re):Prop:=(x=.slice none 0 0∧M=[])∨∃ g n,x=.slice (some ⟨g,0,none⟩) n n∧n=M.length∧lo≤g∧ReB w g M
theorem GRB.rv {lo:Nat} {w:World} {x:Value} {M:List Re} (h:GRB lo w x M):ReR w x M:=by
 rcases h with ⟨rfl,rfl⟩ | ⟨g,n,rfl,rfl,_,hk⟩
 ·exact ⟨none,0,rfl,ReV.nil _ _⟩
 ·exact ⟨_,_,rfl,hk.v⟩
theorem GRB.keep {lo:Nat} {w w':World} {x:Value} {M:List Re} (h:GRB lo w x M) (hb:Below w.heap.size w w'):GRB lo w' x M :=
 h.imp id fun ⟨g,n,h1,h2,h3,hk⟩=>⟨g,n,h1,h2,h3,hk.keep hb⟩
def mkR (k:Nat):Re:=⟨(k:Int)*4+1,(k:Int)*4+1+1,(k:Int)*4+1+1+1,(k:Int)*4+1+1+1+1⟩
def MKR (n:Nat):List Re:=(List.range n).map mkR
theorem GRB.but {lo g0:Nat} {w w':World} {v:Value} {M:List Re} (h:GRB lo w v M) (hb:w.grownBy w' (some g0)) (hg:g0<lo):GRB lo w' v M :=
 h.imp id fun ⟨g,n,h1,h2,h3,hk⟩=>⟨g,n,h1,h2,h3,hk.but hb (by omega)⟩
def GRM (w:World) (v:Value) (n:Nat):Prop:=(v=.slice none 0 0∧n=0)∨∃ g,v=.slice (some ⟨g,0,none⟩) n n∧ReB w g (MKR n)
theorem GRM.keep {w w':World} {v:Value} {n:Nat} (h:GRM w v n) (hb:Below w.heap.size w w'):GRM w' v n :=
 h.imp id fun ⟨g,h1,hk⟩=>⟨g,h1,hk.keep hb⟩
def rgG (u v:Int):Bool:=rng u 0 400&&rng v 0 400
theorem rgG_yes {u v:Int} (h:rgG u v=true):(0≤u∧u≤400)∧(0≤v∧v≤400):=by simpa only [rgG,Bool.and_eq_true,rng_iff] using h
theorem validRoom_g (u v:Int) (w:World):Calls Tryz.prog 33 #[.int .i64 u,.int .i64 v] w fun e w'=>e=.returned (.bool (rgG u v))∧w=w':=by
 unfold rgG
 cases h1:rng u 0 400
 ·go_enter Tryz.func33,Tryz.ntmps33
  go_wp2_with fail
  with_reducible refine (within_any _ _ _ _).mono ?_
  rintro e w2 ⟨rfl,rfl⟩;go_wp2;go_ret;exact ⟨by simp,rfl⟩
 ·go_enter Tryz.func33,Tryz.ntmps33
  go_wp2_with fail
  with_reducible refine (within_any _ _ _ _).mono ?_
  rintro e w2 ⟨rfl,rfl⟩
  go_wp2_with fail
  with_reducible refine (within_any _ _ _ _).mono ?_
  rintro e w2 ⟨rfl,rfl⟩;go_wp2;go_ret;exact ⟨by simp,rfl⟩
theorem goodRoom_g (u v:Int) (w:World):Calls Tryz.prog 28 #[.int .i64 u,.int .i64 v] w fun e w'=>e=.returned (.bool (rgG u v))∧w=w':=by
 unfold rgG
 cases h1:rng u 0 400
 ·go_enter Tryz.func28,Tryz.ntmps28
  go_wp2_with fail
  with_reducible refine (inRange_any _ _ _ _).mono ?_
  rintro e w2 ⟨rfl,rfl⟩;go_wp2;go_ret;exact ⟨by simp,rfl⟩
 ·go_enter Tryz.func28,Tryz.ntmps28
  go_wp2_with fail
  with_reducible refine (inRange_any _ _ _ _).mono ?_
  rintro e w2 ⟨rfl,rfl⟩
  go_wp2_with fail
  with_reducible refine (inRange_any _ _ _ _).mono ?_
  rintro e w2 ⟨rfl,rfl⟩;go_wp2;go_ret;exact ⟨by simp,rfl⟩
def lyL (L:List Nd) (a b:Int):List Re:=if (treeB L&&rgG a b)=true then (List.range L.length).map (lrM L a b) else []
theorem GRB.mono {lo lo':Nat} {w:World} {x:Value} {M:List Re} (h:GRB lo w x M) (hl:lo'≤lo):GRB lo' w x M:=h.imp id fun ⟨g,n,h1,h2,h3,hk⟩=>⟨g,n,h1,h2,Nat.le_trans hl h3,hk⟩
theorem LayoutTree_x (A:Option Addr) (c k:Nat) (R:List Nr) (a b:Int) (w:World) (hk:k=R.length) (h:NrV w A R) (hr:RdR w R) (hL:R.length≤1048576) (hm:∀ p∈R,p.n.cs.length≤1048576∧p.n.rs.length≤1048576) :
  Calls Tryz.prog 40 #[.agg #[.slice A k c],.int .i64 a,.int .i64 b] w fun e w'=>(∃ x,e=.returned x∧GRB w.heap.size w' x (lyL (R.map Nr.n) a b)∧((lyL (R.map Nr.n) a b).length=0→x=.slice none 0 0))∧Below w.heap.size w w':=by
 have hB0:Below w.heap.size w (w.alloc (.cells #[.slice A k c] 30 (0,0))):=balloc (Below.refl _ _);have HX:=hD (newS w (.cells #[.slice A k c] 30 (0,0)));have HB:=hD hB0;have HV:=hD (h.keep hB0);have HR:=hD (hr.keep hB0);have HM:=hD hm;have HK:=hD hk;have x0:=cellS HX.out 0;clear hB0 h hr hm hk
 cases ht:treeB (R.map Nr.n)
 ·rw [show lyL (R.map Nr.n) a b=[] by simp [lyL,ht]];have HT:=hD ht;clear ht
  go_enter Tryz.func40,Tryz.ntmps40
  go_wp2_with fail
  with_reducible refine (ValidTree_n A c k R false _ HK.out HV.out HR.out hL HM.out HT.out).mono ?_
  rintro e w1 ⟨rfl,hb⟩;clear x0;replace HX:=hbk hb HX;replace HB:=hD (bkeep2 HB.out hb);clear hb;have x0:=cellS HX.out 0;go_wp2;go_ret;exact ⟨⟨_,rfl,.inl ⟨rfl,rfl⟩,fun _=>rfl⟩,HB.out⟩
 ·cases hg:rgG a b
  ·rw [show lyL (R.map Nr.n) a b=[] by simp [lyL,hg]];have HT:=hD ht;clear ht
   go_enter Tryz.func40,Tryz.ntmps40
   go_wp2_with fail
   with_reducible refine (ValidTree_n A c k R true _ HK.out HV.out HR.out hL HM.out HT.out).mono ?_
   rintro e w1 ⟨rfl,hb⟩;clear x0;replace HX:=hbk hb HX;replace HB:=hD (bkeep2 HB.out hb);clear hb;have x0:=cellS HX.out 0
   go_wp2_with fail
   with_reducible refine (validRoom_g a b _).mono ?_
   rintro e w2 ⟨rfl,rfl⟩;rw [hg];clear hg;go_wp2;go_ret;exact ⟨⟨_,rfl,.inl ⟨rfl,rfl⟩,fun _=>rfl⟩,HB.out⟩
  ·rw [show lyL (R.map Nr.n) a b=(List.range k).map (lrM (R.map Nr.n) a b) by simp [lyL,ht,hg,HK.out]];have HT:=hD ht;have HG:=hD (rgG_yes hg);clear ht
   go_enter Tryz.func40,Tryz.ntmps40
   go_wp2_with fail
   with_reducible refine (ValidTree_n A c k R true _ HK.out HV.out HR.out hL HM.out HT.out).mono ?_
   rintro e w1 ⟨rfl,hb⟩;clear x0;replace HX:=hbk hb HX;replace HV:=hD (HV.out.keep hb);replace HR:=hD (HR.out.keep hb);replace HB:=hD (bkeep2 HB.out hb);clear hb;have x0:=cellS HX.out 0
   go_wp2_with fail
   with_reducible refine (validRoom_g a b _).mono ?_
   rintro e w2 ⟨rfl,rfl⟩;rw [hg];clear hg;have hsz:=HB.out.size
   go_wp2_with fail
   with_reducible refine (layout_v A c k R a b _ (trOK_of HT.out) HK.out HV.out HR.out HG.out.1 HG.out.2).mono ?_
   rintro e w3 ⟨⟨g,rfl,hgl,hre⟩,hb⟩;have HRE:=hD hre;clear x0 hre;replace HB:=hD (bkeep2 HB.out hb);clear hb;go_wp2;go_ret;exact ⟨⟨_,rfl,.inr ⟨g,_,rfl,by rw [List.length_map,List.length_range],Nat.le_trans hsz hgl,HRE.out⟩,fun h0=>by rw [List.length_map,List.length_range] at h0;have:=(tree_len HT.out).1;rw [List.length_map] at this;have:=HK.out;omega⟩,HB.out⟩
section
attribute [local go_sem 5000] run_mx run_mn run_eqlR run_neqR
set_option maxRecDepth 100000
def Smw (a b c d:Int):Prop:=(-8000000000000000≤a∧a≤8000000000000000)∧(-8000000000000000≤b∧b≤8000000000000000)∧(-8000000000000000≤c∧c≤8000000000000000)∧(-8000000000000000≤d∧d≤8000000000000000)
theorem Smw_of {a b c d:Int} (h:(-8000000000000000≤a∧a≤8000000000000000)∧(-8000000000000000≤b∧b≤8000000000000000)∧(-8000000000000000≤c∧c≤8000000000000000)∧(-8000000000000000≤d∧d≤8000000000000000)):Smw a b c d:=h
theorem Smw.out {a b c d:Int} (h:Smw a b c d):(-8000000000000000≤a∧a≤8000000000000000)∧(-8000000000000000≤b∧b≤8000000000000000)∧(-8000000000000000≤c∧c≤8000000000000000)∧(-8000000000000000≤d∧d≤8000000000000000):=h
def Lw (x y u v:Int):Prop:=0≤u∧u≤1000000000000000∧0≤v∧v≤1000000000000000∧-1000000000000000≤x∧x≤1000000000000000∧-1000000000000000≤y∧y≤1000000000000000
theorem Lw.out {x y u v:Int} (h:Lw x y u v):0≤u∧u≤1000000000000000∧0≤v∧v≤1000000000000000∧-1000000000000000≤x∧x≤1000000000000000∧-1000000000000000≤y∧y≤1000000000000000:=h
theorem Smw_lw {x y u v:Int} (h:Lw x y u v):Smw x y u v:=by unfold Lw at h;apply Smw_of;omega
theorem right_l (x y u v:Int) (w:World) (hS:Smw x y u v):Calls Tryz.prog 72 #[.agg #[.int .i64 (x),.int .i64 (y),.int .i64 (u),.int .i64 (v)]] w fun e w'=>e=.returned (.int .i64 (x+u))∧Below w.heap.size w w':=by
 obtain ⟨⟨s1,s2⟩,⟨s3,s4⟩,⟨s5,s6⟩,⟨s7,s8⟩⟩:=hS.out;clear hS
 go_enter Tryz.func72,Tryz.ntmps72
 go_wp2
 all_goals try go_quiet (fail)
 all_goals try go_wp2
 go_ret;exact ⟨rfl,((Below.refl _ _).alloc (Nat.le_refl _) _)⟩
theorem bottom_l (x y u v:Int) (w:World) (hS:Smw x y u v):Calls Tryz.prog 73 #[.agg #[.int .i64 (x),.int .i64 (y),.int .i64 (u),.int .i64 (v)]] w fun e w'=>e=.returned (.int .i64 (y+v))∧Below w.heap.size w w':=by
 obtain ⟨⟨s1,s2⟩,⟨s3,s4⟩,⟨s5,s6⟩,⟨s7,s8⟩⟩:=hS.out;clear hS
 go_enter Tryz.func73,Tryz.ntmps73
 go_wp2
 all_goals try go_quiet (fail)
 all_goals try go_wp2
 go_ret;exact ⟨rfl,((Below.refl _ _).alloc (Nat.le_refl _) _)⟩
theorem has_l (x y u v p q:Int) (w:World) (h1:Lw x y u v):Calls Tryz.prog 46 #[.agg #[.int .i64 (x),.int .i64 (y),.int .i64 (u),.int .i64 (v)],.int .i64 p,.int .i64 q] w fun e w'=>e=.returned (.bool (hpB x y u v p q))∧Below w.heap.size w w':=by
 have S1:=Smw_lw h1
 by_cases g1:x≤p
 ·by_cases g2:p<x+u
  ·by_cases g3:y≤q
   ·by_cases g4:q<y+v
    all_goals
     go_enter Tryz.func46,Tryz.ntmps46
     go_wp2_with (first|(go_at_call 72;refine (right_l _ _ _ _ _ (by assumption)).mono ?_;rintro e w1 ⟨rfl,hb⟩;obtain ⟨hc,hf⟩:=bcell hb;(first|(replace hB:=bkeep2 hB hb)|(replace hB:=bkeep2 (balloc hB) hb)|(replace hB:=bkeep2 (balloc (balloc hB)) hb) | have hB:=hb);obtain ⟨hC,hF,hZ,hN⟩:=bcell4 hB;(try (have hlt:=Nat.lt_of_lt_of_le hlt hb.size;have hne:=Nat.ne_of_lt hlt));(have hs0:=hb.size);(try simp only [World.size_alloc] at hs0);(try (have hlt:=Nat.lt_of_succ_le hs0;have hne:=Nat.ne_of_lt hlt)))|(go_at_call 73;refine (bottom_l _ _ _ _ _ (by assumption)).mono ?_;rintro e w1 ⟨rfl,hb⟩;obtain ⟨hc,hf⟩:=bcell hb;(first|(replace hB:=bkeep2 hB hb)|(replace hB:=bkeep2 (balloc hB) hb)|(replace hB:=bkeep2 (balloc (balloc hB)) hb) | have hB:=hb);obtain ⟨hC,hF,hZ,hN⟩:=bcell4 hB;(try (have hlt:=Nat.lt_of_lt_of_le hlt hb.size;have hne:=Nat.ne_of_lt hlt));(have hs0:=hb.size);(try simp only [World.size_alloc] at hs0);(try (have hlt:=Nat.lt_of_succ_le hs0;have hne:=Nat.ne_of_lt hlt))))
     go_ret
     exact ⟨ret_bool (by (first|(refine Eq.symm (hpB_not.2 ?_);omega)|(refine Eq.symm (hpB_iff.2 ?_);omega)|(rw [Bool.eq_iff_iff,hpB_iff];simp only [decide_eq_true_eq];omega))),(by repeat (first | with_reducible exact Below.refl _ _ | with_reducible assumption | with_reducible refine balloc ?_|(with_reducible refine bset ?_ ?_;rotate_left;((try dsimp only);omega)) | refine bkeep2 ?_ (by assumption) | with_reducible refine Below.drew ?_))⟩
   ·go_enter Tryz.func46,Tryz.ntmps46
    go_wp2_with (first|(go_at_call 72;refine (right_l _ _ _ _ _ (by assumption)).mono ?_;rintro e w1 ⟨rfl,hb⟩;obtain ⟨hc,hf⟩:=bcell hb;(first|(replace hB:=bkeep2 hB hb)|(replace hB:=bkeep2 (balloc hB) hb)|(replace hB:=bkeep2 (balloc (balloc hB)) hb) | have hB:=hb);obtain ⟨hC,hF,hZ,hN⟩:=bcell4 hB;(try (have hlt:=Nat.lt_of_lt_of_le hlt hb.size;have hne:=Nat.ne_of_lt hlt));(have hs0:=hb.size);(try simp only [World.size_alloc] at hs0);(try (have hlt:=Nat.lt_of_succ_le hs0;have hne:=Nat.ne_of_lt hlt)))|(go_at_call 73;refine (bottom_l _ _ _ _ _ (by assumption)).mono ?_;rintro e w1 ⟨rfl,hb⟩;obtain ⟨hc,hf⟩:=bcell hb;(first|(replace hB:=bkeep2 hB hb)|(replace hB:=bkeep2 (balloc hB) hb)|(replace hB:=bkeep2 (balloc (balloc hB)) hb) | have hB:=hb);obtain ⟨hC,hF,hZ,hN⟩:=bcell4 hB;(try (have hlt:=Nat.lt_of_lt_of_le hlt hb.size;have hne:=Nat.ne_of_lt hlt));(have hs0:=hb.size);(try simp only [World.size_alloc] at hs0);(try (have hlt:=Nat.lt_of_succ_le hs0;have hne:=Nat.ne_of_lt hlt))))
    go_ret
    exact ⟨ret_bool (by (first|(refine Eq.symm (hpB_not.2 ?_);omega)|(refine Eq.symm (hpB_iff.2 ?_);omega)|(rw [Bool.eq_iff_iff,hpB_iff];simp only [decide_eq_true_eq];omega))),(by repeat (first | with_reducible exact Below.refl _ _ | with_reducible assumption | with_reducible refine balloc ?_|(with_reducible refine bset ?_ ?_;rotate_left;((try dsimp only);omega)) | refine bkeep2 ?_ (by assumption) | with_reducible refine Below.drew ?_))⟩
  ·go_enter Tryz.func46,Tryz.ntmps46
   go_wp2_with (first|(go_at_call 72;refine (right_l _ _ _ _ _ (by assumption)).mono ?_;rintro e w1 ⟨rfl,hb⟩;obtain ⟨hc,hf⟩:=bcell hb;(first|(replace hB:=bkeep2 hB hb)|(replace hB:=bkeep2 (balloc hB) hb)|(replace hB:=bkeep2 (balloc (balloc hB)) hb) | have hB:=hb);obtain ⟨hC,hF,hZ,hN⟩:=bcell4 hB;(try (have hlt:=Nat.lt_of_lt_of_le hlt hb.size;have hne:=Nat.ne_of_lt hlt));(have hs0:=hb.size);(try simp only [World.size_alloc] at hs0);(try (have hlt:=Nat.lt_of_succ_le hs0;have hne:=Nat.ne_of_lt hlt)))|(go_at_call 73;refine (bottom_l _ _ _ _ _ (by assumption)).mono ?_;rintro e w1 ⟨rfl,hb⟩;obtain ⟨hc,hf⟩:=bcell hb;(first|(replace hB:=bkeep2 hB hb)|(replace hB:=bkeep2 (balloc hB) hb)|(replace hB:=bkeep2 (balloc (balloc hB)) hb) | have hB:=hb);obtain ⟨hC,hF,hZ,hN⟩:=bcell4 hB;(try (have hlt:=Nat.lt_of_lt_of_le hlt hb.size;have hne:=Nat.ne_of_lt hlt));(have hs0:=hb.size);(try simp only [World.size_alloc] at hs0);(try (have hlt:=Nat.lt_of_succ_le hs0;have hne:=Nat.ne_of_lt hlt))))
   go_ret
   exact ⟨ret_bool (by (first|(refine Eq.symm (hpB_not.2 ?_);omega)|(refine Eq.symm (hpB_iff.2 ?_);omega)|(rw [Bool.eq_iff_iff,hpB_iff];simp only [decide_eq_true_eq];omega))),(by repeat (first | with_reducible exact Below.refl _ _ | with_reducible assumption | with_reducible refine balloc ?_|(with_reducible refine bset ?_ ?_;rotate_left;((try dsimp only);omega)) | refine bkeep2 ?_ (by assumption) | with_reducible refine Below.drew ?_))⟩
 ·go_enter Tryz.func46,Tryz.ntmps46
  go_wp2_with (first|(go_at_call 72;refine (right_l _ _ _ _ _ (by assumption)).mono ?_;rintro e w1 ⟨rfl,hb⟩;obtain ⟨hc,hf⟩:=bcell hb;(first|(replace hB:=bkeep2 hB hb)|(replace hB:=bkeep2 (balloc hB) hb)|(replace hB:=bkeep2 (balloc (balloc hB)) hb) | have hB:=hb);obtain ⟨hC,hF,hZ,hN⟩:=bcell4 hB;(try (have hlt:=Nat.lt_of_lt_of_le hlt hb.size;have hne:=Nat.ne_of_lt hlt));(have hs0:=hb.size);(try simp only [World.size_alloc] at hs0);(try (have hlt:=Nat.lt_of_succ_le hs0;have hne:=Nat.ne_of_lt hlt)))|(go_at_call 73;refine (bottom_l _ _ _ _ _ (by assumption)).mono ?_;rintro e w1 ⟨rfl,hb⟩;obtain ⟨hc,hf⟩:=bcell hb;(first|(replace hB:=bkeep2 hB hb)|(replace hB:=bkeep2 (balloc hB) hb)|(replace hB:=bkeep2 (balloc (balloc hB)) hb) | have hB:=hb);obtain ⟨hC,hF,hZ,hN⟩:=bcell4 hB;(try (have hlt:=Nat.lt_of_lt_of_le hlt hb.size;have hne:=Nat.ne_of_lt hlt));(have hs0:=hb.size);(try simp only [World.size_alloc] at hs0);(try (have hlt:=Nat.lt_of_succ_le hs0;have hne:=Nat.ne_of_lt hlt))))
  go_ret
  exact ⟨ret_bool (by (first|(refine Eq.symm (hpB_not.2 ?_);omega)|(refine Eq.symm (hpB_iff.2 ?_);omega)|(rw [Bool.eq_iff_iff,hpB_iff];simp only [decide_eq_true_eq];omega))),(by repeat (first | with_reducible exact Below.refl _ _ | with_reducible assumption | with_reducible refine balloc ?_|(with_reducible refine bset ?_ ?_;rotate_left;((try dsimp only);omega)) | refine bkeep2 ?_ (by assumption) | with_reducible refine Below.drew ?_))⟩
theorem shasPoint_l (x y u v p q:Int) (w:World) (h1:Lw x y u v):Calls Tryz.prog 71 #[.agg #[.int .i64 (x),.int .i64 (y),.int .i64 (u),.int .i64 (v)],.int .i64 p,.int .i64 q] w fun e w'=>e=.returned (.bool (hpB x y u v p q))∧Below w.heap.size w w':=by
 obtain ⟨⟨s1,s2⟩,⟨s3,s4⟩,⟨s5,s6⟩,⟨s7,s8⟩⟩:=(Smw_lw h1).out;rw [hpB_sp]
 cases g:rng p x (x+u-1)
 all_goals
  go_enter Tryz.func71,Tryz.ntmps71
  go_wp2_with (go_at_call 44;refine (inRange_any _ _ _ _).mono ?_;rintro e w' ⟨rfl,rfl⟩)
  go_ret;exact ⟨ret_bool (by simp),(by repeat (first | with_reducible exact Below.refl _ _ | with_reducible assumption | with_reducible refine balloc ?_|(with_reducible refine bset ?_ ?_;rotate_left;((try dsimp only);omega)) | refine bkeep2 ?_ (by assumption) | with_reducible refine Below.drew ?_))⟩
end
def rcN (M:List Re) (i:Nat):Re:=(M[i]?).getD ⟨0,0,0,0⟩
def paX (L:List Nd) (i:Nat):Nat:=(((L[i]?).map Nd.pa).getD 0).toNat
theorem rcN_at {M:List Re} {i:Nat} {S:Re} (h:M[i]?=some S):rcN M i=S:=by unfold rcN;rw [h];rfl
theorem GRB.sl {lo:Nat} {w:World} {x:Value} {M:List Re} (h:GRB lo w x M):∃ A1,x=.slice A1 M.length M.length∧(0<M.length→∃ g,A1=some ⟨g,0,none⟩∧lo≤g∧ReB w g M):=by
 rcases h with ⟨rfl,rfl⟩ | ⟨g,n,rfl,rfl,hg,hk⟩
 ·exact ⟨none,rfl,fun h=>absurd h (by simp)⟩
 ·exact ⟨_,rfl,fun _=>⟨g,rfl,hg,hk⟩⟩
theorem reB_cells {w:World} {g i:Nat} {M:List Re} {S:Re} (h:ReB w g M) (hi:M[i]?=some S):w.cell? ⟨g,i*4,none⟩=some (.int .i64 S.x)∧w.cell? ⟨g,i*4+1,none⟩=some (.int .i64 S.y)∧w.cell? ⟨g,i*4+2,none⟩=some (.int .i64 S.u)∧w.cell? ⟨g,i*4+3,none⟩=some (.int .i64 S.v):=by
 obtain ⟨cs,hh,hs,hc⟩:=h;have h:=hc i S hi;exact ⟨(cellS hh _).trans (by simpa using h 0 _ rfl),(cellS hh _).trans (h 1 _ rfl),(cellS hh _).trans (h 2 _ rfl),(cellS hh _).trans (h 3 _ rfl)⟩
theorem lyL_ok {L:List Nd} {a b:Int} (h:0<(lyL L a b).length):TrOK L∧(lyL L a b).length=L.length∧∀ S∈lyL L a b,Lw S.x S.y S.u S.v:=by
 unfold lyL at *
 split at h
 ·rename_i e
  rw [if_pos e];rw [Bool.and_eq_true] at e;have hT:=trOK_of e.1;refine ⟨hT,by simp,fun S hS=>?_⟩;obtain ⟨k,hk,rfl⟩:=List.mem_map.1 hS;obtain ⟨q,hx,hy⟩:=lrM_room hT (rgG_yes e.2).1 (rgG_yes e.2).2 (List.mem_range.1 hk);obtain ⟨q1,q2⟩:=rqW_iff.1 q;unfold Lw;omega
 ·simp at h
def inR (S T:Re):Bool:=insB S.x S.y S.u S.v T.x T.y T.u T.v
def clF (L:List Nd) (M:List Re) (i:Nat):Bool:=decide (0<i)&&!inR (rcN M (paX L i)) (rcN M i)
def hpR (x y:Int) (S:Re):Bool:=hpB S.x S.y S.u S.v x y
def lastK (L:List Nd) (M:List Re) (x y:Int) (i:Nat):Option Nat:=(kidD L i).reverse.find? fun k=>hpR x y (rcN M k)
def HitN (L:List Nd) (M:List Re) (x y:Int):Nat→Nat→Nat→Prop
 | 0,i,j=>j=i∧lastK L M x y i=none
 | d+1,i,j=>∃ k,lastK L M x y i=some k∧HitN L M x y d k j
theorem lastK_mem {L:List Nd} {M:List Re} {x y:Int} {i k:Nat} (h:lastK L M x y i=some k):k∈kidD L i:=by
 have:=List.mem_of_find?_eq_some h
 simpa using this
theorem hitN_ex {L:List Nd} (hT:TrOK L) (M:List Re) (x y:Int):∀ (m i:Nat),L.length≤i+m→∃ d j,HitN L M x y d i j
 | m,i,h=>by
  cases e:lastK L M x y i with
  | none=>exact ⟨0,i,rfl,e⟩
  | some k =>
   have hk:=lastK_mem e;have h1:=kid_gt hT hk;have h2:=kidD_lt hk
   cases m with
   | zero=>omega
   | succ m =>
    obtain ⟨d,j,h⟩:=hitN_ex hT M x y m k (by omega);exact ⟨d+1,j,k,e,h⟩
theorem find_rev {p:Nat→Bool} {ks:List Nat} {n k:Nat} (hn:ks[n]?=some k) (hp:p k=true) (hl:∀ m z:Nat,n<m→ks[m]?=some z→p z=false):ks.reverse.find? p=some k:=by
 obtain ⟨hlt,hk⟩:=List.getElem?_eq_some_iff.1 hn
 have e:ks=ks.take n ++ (k :: ks.drop (n+1)):=by rw [<- hk,<- List.drop_eq_getElem_cons hlt,List.take_append_drop]
 have h0:(ks.drop (n+1)).reverse.find? p=none:=by
  rw [List.find?_eq_none];intro z hz;rw [List.mem_reverse] at hz;obtain ⟨m,hm⟩:=List.getElem?_of_mem hz;rw [List.getElem?_drop] at hm;rw [hl _ z (by omega) hm];exact Bool.noConfusion
 have e2:ks.reverse=(ks.drop (n+1)).reverse ++ (k :: (ks.take n).reverse):=by
  conv=>lhs;rw [e]
  rw [List.reverse_append,List.reverse_cons,List.append_assoc]
  rfl
 rw [e2,List.find?_append,h0,Option.none_or,List.find?_cons_of_pos hp]
theorem find_revN {p:Nat→Bool} {ks:List Nat} (hl:∀ m z:Nat,ks[m]?=some z→p z=false):ks.reverse.find? p=none:=by
 rw [List.find?_eq_none];intro z hz;rw [List.mem_reverse] at hz;obtain ⟨m,hm⟩:=List.getElem?_of_mem hz;rw [hl m z hm];exact Bool.noConfusion
theorem root_kid {R:List Nr} (hT:TrOK (R.map Nr.n)) (j:Nat):isKid R (j:Int) 0=false:=by
 have h1:=hT.l1;rw [List.length_map] at h1
 obtain ⟨r0,hr0⟩:∃ r0,R[0]?=some r0:=⟨_,List.getElem?_eq_getElem (by omega)⟩
 rw [isKid_at hr0]
 have:(R.map Nr.n)[0]?=some r0.n:=by rw [List.getElem?_map,hr0];rfl
 rcases hT.up 0 _ this with ⟨_,e⟩ | ⟨h,_⟩
 ·rw [e];simp
 ·omega
theorem shit_step (A:Option Addr) (c k:Nat) (R:List Nr) (M:List Re) (g:Nat) (x y:Int) (hT:TrOK (R.map Nr.n)) (hk:k=R.length) (hMR:M.length=R.length) (hL:∀ S∈M,Lw S.x S.y S.u S.v) (i j:Nat) (w:World) (o:Option Nat) (ho:lastK (R.map Nr.n) M x y i=o) (hi:i<R.length) (h:NrV w A R) (hM:ReB w g M) (hN:o=none→j=i)
  (hI:∀ z,o=some z→∀ W,NrV W A R→ReB W g M→Calls Tryz.prog 45 #[.agg #[.slice A k c],.slice (some ⟨g,0,none⟩) k k,.int .i64 (z:Int),.int .i64 x,.int .i64 y] W fun e w'=>e=.returned (.int .i64 (j:Int))∧Below W.heap.size W w') :
  Calls Tryz.prog 45 #[.agg #[.slice A k c],.slice (some ⟨g,0,none⟩) k k,.int .i64 (i:Int),.int .i64 x,.int .i64 y] w fun e w'=>e=.returned (.int .i64 (j:Int))∧Below w.heap.size w w':=by
 have hl10:R.length≤10:=by have:=hT.l10;rwa [List.length_map] at this
 obtain ⟨ks,hks⟩:∃ ks,kidD (R.map Nr.n) i=ks:=⟨_,rfl⟩
 have hkl:∀ z∈ks,z<M.length:=fun z hz=>by rw [<- hks] at hz;have:=kidD_lt hz;rw [List.length_map] at this;rw [hMR];exact this
 have h10:ks.length≤10:=by rw [<- hks];exact Nat.le_trans (kidD_len _ _) hT.l10
 have HSK:=hD (show ∀ W:World,NrV W A R→Calls Tryz.prog 51 #[.agg #[.slice A k c],.int .i64 (i:Int)] W fun e w'=>(∃ v,e=.returned v∧KdV w' v (ks.map fun (x:Nat)=>(x:Int)))∧Below W.heap.size W w' from fun W h=>by
  have:=skidsOf_v A c R (i:Int) W h (by omega) (by omega) (root_kid hT i)
  rw [kidsM_eq,hks,<- hk] at this
  exact this)
 unfold lastK at ho;rw [hks] at ho;have HLK:=hD ho;have HKL:=hD hkl;have HMR:=hD hMR;have HLW:=hD hL;have HN:=hD hN;have HI:=hD hI;have HK:=hD hk;have hB0:Below w.heap.size w (w.alloc (.cells #[.slice A k c] 30 (0,0))):=balloc (Below.refl _ _);have HX:=hD (newS w (.cells #[.slice A k c] 30 (0,0)));have HB:=hD hB0;have HV:=hD (h.keep hB0);have HRE:=hD (hM.keep hB0);have x0:=cellS HX.out 0
 clear hB0 h hM hks hkl hMR hL hN hI ho hT hk
 go_enter Tryz.func45,Tryz.ntmps45
 go_wp2_with fail
 refine (HSK.out _ HV.out).mono ?_;rintro e w1 ⟨⟨v,rfl,B,cb,rfl,hnv,hcb⟩,hb⟩;rw [List.length_map] at hcb ⊢;have HNB:=hD hnv;clear x0 hnv HSK;replace HX:=hbk hb HX;replace HV:=hD (HV.out.keep hb);replace HRE:=hD (HRE.out.keep hb);replace HB:=hD (bkeep2 HB.out hb);clear hb;have x0:=cellS HX.out 0;have hw1:IntKind.i64.wrap ((ks.length:Int)-1)=(ks.length:Int)-1:=IntWalk.i64_in _ (by omega)
 go_wp2_with fail
 go_loopw [12] (fun kv wr=>∃ n:Nat,n≤ks.length∧kv=.int .i64 ((n:Int)-1)∧(∀ m z:Nat,n≤m→ks[m]?=some z→hpR x y (rcN M z)=false)∧Below w1.heap.size w1 wr) (fun kv _=>(intOf kv+1).toNat)
 case atStart=>exact ⟨ks.length,Nat.le_refl _,rfl,fun m z h1 h2=>by have:=(List.getElem?_eq_some_iff.1 h2).1;omega,Below.refl _ _⟩
 case round =>
  obtain ⟨n,hn,rfl,hno,hbr⟩:=hrel;clear hw1
  rcases n with _ | n
  ·have hd:decide (((0:Nat):Int)-1≥0)=false:=by simp
   have HE:=hD (show j=i by
    refine HN.out ?_;rw [<- HLK.out]
    exact find_revN fun m z hz=>hno m z (Nat.zero_le _) hz)
   clear hno;go_wp2;go_ret;exact ⟨by rw [HE.out];rfl,bkeep2 HB.out hbr⟩
  ·have e1:((n+1:Nat):Int)-1=(n:Int):=by omega
   rw [e1];clear e1
   have hlt:n<ks.length:=by omega
   have hd:decide ((n:Int)≥0)=true:=by simp
   have hd2:decide ((0:Int)≤(n:Int))=true:=by simp
   have hdn:(n:Int)<(ks.length:Int):=by omega
   obtain ⟨b0,off,rfl,hb,hps⟩:=HNB.out.cells (by rw [List.length_map];omega)
   obtain ⟨kn,hkn⟩:∃ kn,ks[n]?=some kn:=⟨_,List.getElem?_eq_getElem hlt⟩
   have xn:wr.cell? ⟨b0,off+n,none⟩=some (.int .i64 (kn:Int)):=(hbr.cell (p:=⟨b0,off+n,none⟩) hb).trans (hps n _ (by rw [List.getElem?_map,hkn];rfl));have hln:kn<M.length:=HKL.out kn (List.mem_of_getElem? hkn)
   have hdk:(kn:Int)<(k:Int):=by have:=HMR.out;have:=HK.out;omega
   obtain ⟨S,hS⟩:∃ S,M[kn]?=some S:=⟨_,List.getElem?_eq_getElem hln⟩
   have hre:=HRE.out.keep hbr;have hl:=hre.lt;have hbl:b0<wr.heap.size:=Nat.lt_of_lt_of_le hb hbr.size;obtain ⟨c0,c1,c2,c3⟩:=reB_cells hre hS;have LS:=HLW.out S (List.mem_of_getElem? hS)
   obtain ⟨q,hq⟩:∃ q,hpB S.x S.y S.u S.v x y=q:=⟨_,rfl⟩
   have HQ:=hD (show hpR x y (rcN M kn)=q by rw [rcN_at hS];exact hq)
   have HCA:Hid (∀ W':World,Calls Tryz.prog 71 #[.agg #[.int .i64 (S.x),.int .i64 (S.y),.int .i64 (S.u),.int .i64 (S.v)],.int .i64 x,.int .i64 y] W' fun e w'=>e=.returned (.bool q)∧Below W'.heap.size W' w'):=hD fun W'=>by
    have:=shasPoint_l S.x S.y S.u S.v x y W' LS
    rw [hq] at this;exact this
   have HNO:=hD hno;have HBR:=hD hbr;have HKN:=hD hkn;have hxr:w.heap.size<wr.heap.size:=Nat.lt_of_lt_of_le (ltS HX.out) hbr.size;clear hps hkn hS hre hq hno hbr LS hln;have hjs:IntKind.i64.wrap ((n:Int)-1)=(n:Int)-1:=IntWalk.i64_in _ (by omega)
   go_wp2_with fail
   refine (HCA.out _).mono ?_;rintro e w2 ⟨rfl,hb2⟩;have hxn2:w2.cell? ⟨b0,off+n,none⟩=some (.int .i64 (kn:Int)):=(hb2.cell (p:=⟨b0,off+n,none⟩) hbl).trans xn;have hx2:w2.cell? ⟨w.heap.size,0,none⟩=some (.slice A k c):=cellS ((hb2.block _ hxr).trans ((HBR.out.block _ (ltS HX.out)).trans HX.out)) 0;have hlt2:w.heap.size<w2.heap.size:=Nat.lt_of_lt_of_le hxr hb2.size
   have hbl2:b0<w2.heap.size:=Nat.lt_of_lt_of_le hbl hb2.size;replace HBR:=hD (bkeep2 HBR.out hb2);clear hb2 HCA xn c0 c1 c2 c3 x0
   cases q
   ·go_wp2
    go_roundw
    case rel=>exact ⟨n,by omega,by go_num,fun m z h1 h2=>by
     rcases Nat.eq_or_lt_of_le h1 with e | e
     ·subst e;rw [HKN.out] at h2;obtain rfl:=Option.some.inj h2;exact HQ.out
     ·exact HNO.out m z e h2,HBR.out⟩
    case measure=>simp [intOf]
   ·have HE:=hD (show o=some kn by
     rw [<- HLK.out]
     exact find_rev HKN.out HQ.out fun m z h1 h2=>HNO.out m z h1 h2)
    go_wp2_with fail
    refine wp_region_grow 9 1 (·<9) (by kernel_rfl) (by kernel_rfl) rfl ?_
    iterate 9 (refine wpG_step (fun K hK=>?_);first|(refine grow_skip rfl ?_;go_simp;refine hK _ ?_;clear hK K)|(apply Exists.intro;refine ⟨.inl ⟨rfl,fun w' hw'=>?_⟩,?_⟩;(focus ((obtain ⟨hc,hf⟩:=bcell hw'.out);(have hcS:=bcellS hw'.out);go_simp <;> first | rfl|(go_at_call 45;exact HI.out kn HE.out _ ((HV.out.keep HBR.out).keep (bdrewn hw'.out)) ((HRE.out.keep HBR.out).keep (bdrewn hw'.out)))));(go_simp;refine hK _ ?_;clear hK K)))
    refine wpG_nil ?_;refine wpK_tail (by kernel_rfl) (fun wa hga=>?_);have hba:=bdrewn hga.out;obtain ⟨hca,hfa⟩:=bcell hba;refine wpAny_one (i:=9) (by kernel_rfl) rfl rfl ?_;go_simp;refine wpAny_end (by kernel_rfl) ?_;refine NoPan.thn ?_;clear hca hfa;clear hga;go_wp2;go_ret;exact ⟨rfl,bkeep2 HB.out (bkeep2 HBR.out hba)⟩
theorem shit_v (A:Option Addr) (c k:Nat) (R:List Nr) (M:List Re) (g:Nat) (x y:Int) (hT:TrOK (R.map Nr.n)) (hk:k=R.length) (hMR:M.length=R.length) (hL:∀ S∈M,Lw S.x S.y S.u S.v):∀ (d i j:Nat) (w:World),HitN (R.map Nr.n) M x y d i j→i<R.length→NrV w A R→ReB w g M →
  Calls Tryz.prog 45 #[.agg #[.slice A k c],.slice (some ⟨g,0,none⟩) k k,.int .i64 (i:Int),.int .i64 x,.int .i64 y] w fun e w'=>e=.returned (.int .i64 (j:Int))∧Below w.heap.size w w':=by
 intro d
 induction d with
 | zero=>exact fun i j w ⟨h1,h2⟩ hi h hM=>shit_step A c k R M g x y hT hk hMR hL i j w none h2 hi h hM (fun _=>h1) (fun z hz=>by cases hz)
 | succ d ih =>
  rintro i j w ⟨z,h1,h2⟩ hi h hM;refine shit_step A c k R M g x y hT hk hMR hL i j w (some z) h1 hi h hM (fun e=>by cases e) (fun z' hz W hW hMW=>?_);obtain rfl:=Option.some.inj hz;exact ih z j W h2 (by have:=kidD_lt (lastK_mem h1);rwa [List.length_map] at this) hW hMW
section
attribute [local go_sem] Oper.semAt_some
def encI (ks:List Nat) (x:{j:Nat // j<ks.length}):Array Value:=#[.int .i64 (x.1:Int),.int .i64 ((ks[x.1]'x.2:Nat):Int)]
def BkJ (n k:Nat) (ys:List {j:Nat // j<n}):Prop:=ys.length=n-k∧∀ (m:Nat) (y:{j:Nat // j<n}),ys[m]?=some y→y.1=n-1-m
theorem BkJ.snoc {n j:Nat} {ys:List {j:Nat // j<n}} (h:BkJ n (j+1) ys) (hj:j<n):BkJ n j (ys ++ [⟨j,hj⟩]):=by
 refine ⟨by rw [List.length_append,h.1];simp;omega,fun m y hy=>?_⟩
 by_cases e:m<ys.length
 ·rw [List.getElem?_append_left e] at hy;exact h.2 m y hy
 ·rw [List.getElem?_append_right (by omega)] at hy;have hm:=(List.getElem?_eq_some_iff.1 hy).1
  simp at hm
  have:m=ys.length:=by omega
  subst this
  simp at hy
  subst hy
  show j=_
  rw [h.1];omega
structure BkAt (W:World) (Bs b:Nat) (A:Option Addr) (c len:Nat) (ks:List Nat):Prop where
 hs:W.cell? ⟨Bs,0,none⟩=some (.slice A len c)
 hn:0<ks.length→∃ off,A=some ⟨b,off,none⟩∧∀ (i k:Nat),ks[i]?=some k→W.cell? ⟨b,off+i,none⟩=some (.int .i64 (k:Int))
theorem BkAt.keep {W W':World} {Bs b:Nat} {A:Option Addr} {c len:Nat} {ks:List Nat} (h:BkAt W Bs b A c len ks) (hk:KU Bs Bs b W W'):BkAt W' Bs b A c len ks :=
 ⟨(World.cell?_of_block (a:=⟨Bs,0,none⟩) hk.1).trans h.hs,fun h0=>let ⟨off,e,hp⟩:=h.hn h0;⟨off,e,fun i k hi=>(World.cell?_of_block (a:=⟨b,off+i,none⟩) hk.2.2).trans (hp i k hi)⟩⟩
theorem bki_in (F:Fence) (n:Nat) (hF:F.fn 110) (hro:F.round=none) (hn:1≤n) (l Bs b:Nat) (A:Option Addr) (c len:Nat) (ks:List Nat) (hlen:len=ks.length) (hL:ks.length≤1048576) (J Jx:List {j:Nat // j<ks.length}→World→Prop)
  (hY:∀ pre x W,J pre W→pre.length<ks.length→YieldAt F (n-1) Tryz.prog l (encI ks x) W fun e W' =>
   (e=.returned (.bool true)∧J (pre ++ [x]) W'∧KU Bs Bs b W W')∨(e=.returned (.bool false)∧Jx (pre ++ [x]) W'))
  (W:World) (hu:BkAt W Bs b A c len ks) (h0:J [] W) :
  CallsIn F n Tryz.prog 110 #[.func (.yield l) #[] #[],.pointer (some ⟨Bs,0,none⟩)] W fun e W'=>(∃ v,e=.returned v) ∧
   ((∃ ys,BkJ ks.length 0 ys∧J ys W')∨(∃ pre,(∃ k,BkJ ks.length k pre)∧Jx pre W')):=by
 have hcs0:=hu.hs;have HU:=Lib.hid hu;clear hu;refine callsIn_of_wp Tryz.func110 rfl hF ?_ hro;simp only [Tryz.ntmps110,List.size_toArray,List.length_cons,List.length_nil,Nat.reduceAdd,Nat.reduceSub,Array.replicate_succ,Array.replicate_zero,List.push_toArray,List.append_toArray,List.nil_append,List.cons_append]
 gi_wp2
 clear hcs0
 gi_loopw [3] (fun i wr=>∃ k:Nat,k≤ks.length∧i=.int .i64 ((k:Int)-1)∧(∃ ys,BkJ ks.length k ys∧J ys wr)∧KU Bs Bs b W wr)
  (fun i _=>(intOf i+1).toNat)
 case atStart=>exact ⟨ks.length,Nat.le_refl _,by first | rfl|(rw [hlen];go_num),⟨[],⟨by simp,fun m y hy=>by simp at hy⟩,h0⟩,rfl,rfl,rfl⟩
 case round =>
  obtain ⟨k,hk,rfl,⟨ys,hys,hJs⟩,hK⟩:=hrel
  rcases k with _ | j
  ·have hd:decide (((0:Nat):Int)-1≥0)=false:=by simp
   have HYS:=Lib.hid hys;clear hys
   gi_wp2
   go_end0
   exact ⟨⟨_,rfl⟩,.inl ⟨ys,HYS.out,hJs⟩⟩
  ·have e1:((j+1:Nat):Int)-1=(j:Int):=by omega
   rw [e1]
   have hlt:j<ks.length:=by omega
   have hd:decide ((j:Int)≥0)=true:=by simp
   have hd2:decide ((0:Int)≤(j:Int))=true:=by simp
   have hdl:(j:Int)<(len:Int):=by omega
   have hu2:=HU.out.keep hK;have hcs:=hu2.hs;obtain ⟨off,rfl,hps⟩:=hu2.hn (by omega)
   obtain ⟨kj,hkj⟩:∃ kj,ks[j]=kj:=⟨_,rfl⟩
   have xj:=hps j kj (by rw [List.getElem?_eq_getElem hlt,hkj])
   have hl:ys.length<ks.length:=by
    rw [hys.1];omega
   obtain ⟨fn,tmps,assign,body,hy,hR⟩:=hY ys ⟨j,hlt⟩ wr hJs hl
   have he:encI ks ⟨j,hlt⟩=#[.int .i64 (j:Int),.int .i64 (kj:Int)]:=by unfold encI;dsimp only;rw [hkj]
   rw [he] at hy;have HYS:=Lib.hid hys;have HK:=Lib.hid hK;clear hys hK hkj hps e1 he hu2;have hjs:IntKind.i64.wrap ((j:Int)-1)=(j:Int)-1:=IntWalk.i64_in _ (by omega)
   gi_wp2
   refine hR.mono ?_;rintro e W3 (⟨rfl,hJ3,hk3⟩ | ⟨rfl,hJx3⟩)
   ·gi_wp2
    go_roundw
    case rel=>exact ⟨j,by omega,by go_num,⟨_,HYS.out.snoc hlt,hJ3⟩,HK.out.trans hk3⟩
    case measure=>simp [intOf]
   ·gi_wp2
    refine bodyPost_ret (results_none rfl _ _ _) rfl ?_;exact ⟨⟨_,rfl⟩,.inr ⟨_,⟨j,HYS.out.snoc hlt⟩,hJx3⟩⟩
theorem bki_stops (F:Fence) (n:Nat) (hF:F.fn 110) (hro:F.round=none) (hn:1≤n) (Bs b:Nat) (A:Option Addr) (c len:Nat) (ks:List Nat) (hlen:len=ks.length) (hL:ks.length≤1048576) (w:World) (hBs:Bs<w.heap.size) (hb:b<w.heap.size) (hu:BkAt w Bs b A c len ks) :
  SeqStopsK F n Tryz.prog 110 #[.pointer (some ⟨Bs,0,none⟩)] (encI ks) (KU Bs Bs b) (BkJ ks.length 0) (fun pre=>∃ k,BkJ ks.length k pre) ks.length w:=fun l J Jx W hW _ _ hY h0 =>
 bki_in F n hF hro hn l Bs b A c len ks hlen hL J Jx hY W (hu.keep (KU.of hW hBs hBs hb)) h0
theorem backwardI_v (a:Option Addr) (len cap:Nat) (w:World) :
  Calls Tryz.prog 74 #[.slice a len cap] w fun e w'=>e=.returned (.func (.func 110) #[] #[.pointer (some ⟨w.heap.size,0,none⟩)])∧w'=w.alloc (.cells #[.slice a len cap] 26):=by
 go_enter Tryz.func74,Tryz.ntmps74
 go_wp2;go_ret;exact ⟨rfl,rfl⟩
section
variable {P:Program}
theorem wpIn_namedH {F:Fence} {n:Nat} {c:Code} {Q:Exit→Act→World→Prop} {a:Act} {w:World} (h:∀ W0,W0=w→c.wpIn F n P Q a w):c.wpIn F n P Q a w:=h w rfl
theorem onlyN_noPanH {K:Act→World→Prop}:OnlyN (NoPan (Exit.then K (fun _ _ _=>False))):=fun e a w h q=>by
 cases e <;> first | exact h rfl | exact q
theorem wpIn_region_growH {l0 n id:Nat} {Q:Exit→Act→World→Prop} {a:Act} {w:World} {l:List Oper} (m g:Nat) (pre:Nat→Bool) (hm:P.follows .mixedOrders=true) (hd:l.toArray.all noDef=true) (hB:growB l.toArray m pre=true) (hg:l.length=g+m)
  (h:wpG P l.toArray w.drew (fun a'=>wpK P .any l.toArray (NoPan (Exit.then (fun a w=>Q .normal a w) (fun _ _ _=>False))) pre g (listedTo m 0 (Array.replicate l.toArray.size false)) a' w.drew) (l.take m) a):(Code.region id l.toArray true).wpIn (Fence.wide.inRound l0) n P Q a w:=by
 simp only [growB,Bool.and_eq_true,decide_eq_true_eq] at hB;obtain ⟨⟨⟨hs,hT⟩,hgs⟩,hle⟩:=hB
 have hle':m≤l.length:=by simpa using hle
 refine wpIn_region_any hm (anyLift (Q0:=NoPan (Exit.then (fun a w=>Q .normal a w) (fun _ _ _=>False))) (Q:=Q) hd onlyN_noPanH (fun _ _ h=>h) _ _ _ _ (wpAny_of_K (pre:=pre) _ _ _ _ ?_))
 have:=wpG_text (md:=.any) (w:=w.drew) (Q:=NoPan (Exit.then (fun a w=>Q .normal a w) (fun _ _ _=>False))) hs (fun c a w h=>h) hT g m 0 (l.take m) _ a (by simp;omega) (fun j hj=>by simp [hj]) (Shutl.none _) hgs h
 have e:g+m=l.toArray.size:=by simp;omega
 rw [e] at this;exact this
end
section
variable {F:Fence} {n:Nat} {P:Program} {b:Frame} {a:Act} {k:List Item} {cs:List Frame} {w:World} {Q:Exit→Act→World→Prop}
theorem stepR_scope {c:Code}:step P (lone (b.atR a (.code (.scope c) :: k)) cs w)=.next (lone (b.atR a (.code c :: .inScope c :: k)) cs w) :=
 step_lone_go (by simp [stepG,stepG.exec,Frame.atR])
theorem stepR_inScope {c:Code}:step P (lone (b.atR a (.inScope c :: k)) cs w)=.next (lone (b.atR a k) cs w) :=
 step_lone_go (by simp [stepG,stepG.exec,Frame.atR])
theorem wpIn_scopeS {c:Code} (h:c.wpIn F n P (Exit.noGoto Q) a w):(Code.scope c).wpIn F n P Q a w:=by
 intro b k cs hro hb hr;have h0:(lone (b.atR a (.code (.scope c) :: k)) cs w).fenced P F:=fenced_calm hb hr rfl;obtain ⟨e,a₁,w₁,hq,harr⟩:=h b (.inScope c :: k) cs hro hb hr
 cases e with
 | normal=>exact ⟨.normal,a₁,w₁,hq,.head h0 stepR_scope (StepsIn.trans harr (.one (fenced_calm hb hr rfl) stepR_inScope))⟩
 | exit id =>
  have hx:exitTo id (.inScope c :: k)=exitTo id k:=by simp [exitTo]
  exact ⟨.exit id,a₁,w₁,hq,fun k' hk=>.head h0 stepR_scope (harr.1 k' (by rw [hx];exact hk)),fun hr' hk=>let ⟨k₁,h1,h2⟩:=harr.2 hr' (by rw [hx];exact hk);⟨k₁,h1,.head h0 stepR_scope h2⟩⟩
 | goto l=>exact hq.elim
 | ret=>exact ⟨_,a₁,w₁,hq,.of_steps (.one h0 stepR_scope) harr⟩
 | panic ch=>exact ⟨_,a₁,w₁,hq,.of_steps (.one h0 stepR_scope) harr⟩
 | outgrown=>exact ⟨_,a₁,w₁,hq,.of_steps (.one h0 stepR_scope) harr⟩
end
section
variable {F:Fence} {n:Nat} {P:Program}
theorem roundsIn_ind {c:Code} {Q:Exit→Act→World→Prop} (St:Nat→Act→World→Prop) (h:∀ d a W,St d a W→c.wpIn F n P (Exit.then (fun a' W'=>∃ d',d=d'+1∧St d' a' W') Q) a W):∀ (d:Nat) (a:Act) (W:World),St d a W→Code.roundsIn F n P c Q (d+1) a W
 | 0,a,W,hs=>by
  rw [roundsIn_succ]
  refine wpIn_mono (h 0 a W hs) fun e a' W' hq=>?_
  cases e with
  | normal=>obtain ⟨d',hd,_⟩:=hq;omega
  | _=>exact hq
 | d+1,a,W,hs=>by
  rw [roundsIn_succ]
  refine wpIn_mono (h (d+1) a W hs) fun e a' W' hq=>?_
  cases e with
  | normal =>
   obtain ⟨d',hd,hs'⟩:=hq
   obtain rfl:d'=d:=by omega
   exact roundsIn_ind St h d' a' W' hs'
  | _=>exact hq
theorem wpIn_loop_ind {c:Code} {Q:Exit→Act→World→Prop} {a:Act} {w:World} (St:Nat→Act→World→Prop) (d:Nat) (h0:St d a w) (h:∀ d a W,St d a W→c.wpIn F n P (Exit.then (fun a' W'=>∃ d',d=d'+1∧St d' a' W') Q) a W):(Code.loop c).wpIn F n P Q a w :=
 wpIn_loop_rounds (d+1) (roundsIn_ind St h d a w h0)
def mkD (D:Nat):Deferred:={ target:=.collected D,args:=#[] }
def Mks (B:Nat) (W:World) (Ds:List Nat):Prop:=Ds.Nodup∧∀ D∈Ds,B≤D∧W.heap[D]?=some (.deferred (some []))
theorem leaves_all {fn:Func} {tmps:Array Value} {R:Ending→World→Prop} {w:World}:∀ (Ds:List Nat) (W:World),Mks w.heap.size W Ds→Below w.heap.size w W→(∀ W',Below w.heap.size w W'→LeavesIn F n P fn tmps R [] .returning W')→LeavesInM F n P fn tmps R (Ds.map mkD) .returning W
 | [],W,_,hb,h=>h W hb
 | D :: Ds,W,⟨hn,hm⟩,hb,h=>by
  obtain ⟨hD,hh⟩:=hm D (List.mem_cons_self ..);obtain ⟨hnd,hn2⟩:=List.nodup_cons.1 hn;refine ⟨by simp,.inl ⟨_,_,rfl,run_takeDeferred hh,?_⟩⟩;refine leaves_all Ds _ ⟨hn2,fun D2 h2=>?_⟩ (hb.trans (belowK_b (w:=w) (Nat.le_refl _) W D _ _ hD hh rfl rfl)) h;obtain ⟨h3,h4⟩:=hm D2 (List.mem_cons_of_mem _ h2);exact ⟨h3,(World.putObj_heap_other (by rintro rfl;exact hnd h2)).trans h4⟩
end
end
section
attribute [local go_sem] Oper.semAt_some
attribute [local go_sem] givesUpon_value givesUpon_skip givesUpon_enter
structure HtW (w:World) (A:Option Addr) (c n g:Nat) (x y:Int) (i:Nat) (W:World):Prop where
 t:W.heap[w.heap.size]?=some (.cells #[.slice A n c] 30 (0,0))
 r:W.heap[w.heap.size+1]?=some (.cells #[.slice (some ⟨g,0,none⟩) n n] 51 (0,0))
 p:W.heap[w.heap.size+1+1]?=some (.cells #[.int .i64 x] 3 (0,0))
 q:W.heap[w.heap.size+1+1+1]?=some (.cells #[.int .i64 y] 3 (0,0))
 h:W.heap[w.heap.size+1+1+1+1]?=some (.cells #[.int .i64 (i:Int)] 3 (0,0))
 l:Below w.heap.size w W
 z:w.heap.size+5≤W.heap.size
theorem HtW.grown {w X Y:World} {A:Option Addr} {c n g i:Nat} {x y:Int} {row:Option Nat} (h:HtW w A c n g x y i X) (hg:X.grownBy Y row) (hr:∀ k,row=some k→w.heap.size+5≤k):HtW w A c n g x y i Y :=
 have hz:=h.z
 have f:∀ k,k<w.heap.size+5→Y.heap[k]?=X.heap[k]?:=fun k hk=>hg.block k (by omega) (fun e=>by have:=hr k e.symm;omega)
 ⟨(f _ (by omega)).trans h.t,(f _ (by omega)).trans h.r,(f _ (by omega)).trans h.p,(f _ (by omega)).trans h.q,(f _ (by omega)).trans h.h,h.l.grown hg h.l.size (fun k e=>by have:=hr k e;omega),Nat.le_trans hz hg.size⟩
theorem HtW.below {w X Y:World} {A:Option Addr} {c n g i:Nat} {x y:Int} (h:HtW w A c n g x y i X) (hb:Below X.heap.size X Y):HtW w A c n g x y i Y :=
 have hz:=h.z
 have f:∀ k,k<w.heap.size+5→Y.heap[k]?=X.heap[k]?:=fun k hk=>hb.block k (by omega)
 ⟨(f _ (by omega)).trans h.t,(f _ (by omega)).trans h.r,(f _ (by omega)).trans h.p,(f _ (by omega)).trans h.q,(f _ (by omega)).trans h.h,bkeep2 h.l hb,Nat.le_trans hz hb.size⟩
theorem HtW.set {w X:World} {A:Option Addr} {c n g i:Nat} {x y:Int} (h:HtW w A c n g x y i X) (j:Nat):HtW w A c n g x y j (X.setCell ⟨w.heap.size+1+1+1+1,0,none⟩ (.int .i64 (j:Int))) :=
 have f:∀ k,k≠w.heap.size+1+1+1+1→(X.setCell ⟨w.heap.size+1+1+1+1,0,none⟩ (.int .i64 (j:Int))).heap[k]?=X.heap[k]?:=fun k hk=>Below.heap_setCell _ ⟨w.heap.size+1+1+1+1,0,none⟩ _ _ hk
 ⟨(f _ (by omega)).trans h.t,(f _ (by omega)).trans h.r,(f _ (by omega)).trans h.p,(f _ (by omega)).trans h.q,putS h.h (.int .i64 (j:Int)),h.l.setCell (p:=⟨w.heap.size+1+1+1+1,0,none⟩) (by show w.heap.size≤w.heap.size+1+1+1+1;omega) _,by have:=((Below.refl w.heap.size X).setCell (p:=⟨w.heap.size+1+1+1+1,0,none⟩) (by show w.heap.size≤w.heap.size+1+1+1+1;omega) (.int .i64 (j:Int))).size;have:=h.z;omega⟩
theorem Mks.below {B:Nat} {W W':World} {Ds:List Nat} (h:Mks B W Ds) (hb:Below W.heap.size W W'):Mks B W' Ds:=⟨h.1,fun D hD=>let ⟨a,b⟩:=h.2 D hD;⟨a,(hb.block D (gE b).1).trans b⟩⟩
theorem Mks.grown {B:Nat} {X Y:World} {Ds:List Nat} {row:Option Nat} (h:Mks B X Ds) (hg:X.grownBy Y row) (hr:∀ k,row=some k→∀ D∈Ds,D≠k):Mks B Y Ds:=⟨h.1,fun D hD=>let ⟨a,b⟩:=h.2 D hD;⟨a,(hg.block D (gE b).1 (fun e=>hr D e.symm D hD rfl)).trans b⟩⟩
theorem Mks.set {B b:Nat} {W:World} {Ds:List Nat} (h:Mks B W Ds) (hb:b<B) (v:Value):Mks B (W.setCell ⟨b,0,none⟩ v) Ds:=⟨h.1,fun D hD=>let ⟨a,c⟩:=h.2 D hD;⟨a,(Below.heap_setCell _ ⟨b,0,none⟩ _ _ (by show D≠b;omega)).trans c⟩⟩
theorem bkJ_stop {n k:Nat} {pre:List {j:Nat // j<n}} {z:{j:Nat // j<n}} (h:BkJ n k (pre ++ [z])):∀ m (hm:m<n),z.1<m→(⟨m,hm⟩:{j:Nat // j<n})∈pre:=by
 intro m hm hz;have e:=h.2 pre.length z (by rw [List.getElem?_append_right (Nat.le_refl _),Nat.sub_self];rfl)
 have hl:n-1-m<pre.length:=by omega
 have hy:(pre ++ [z])[n-1-m]?=some pre[n-1-m]:=by rw [List.getElem?_append_left hl,List.getElem?_eq_getElem hl]
 have:=h.2 _ _ hy
 have e2:pre[n-1-m]=⟨m,hm⟩:=Subtype.ext (by show (pre[n-1-m]).1=m;omega);rw [<- e2];exact List.getElem_mem hl
theorem bkJ_all {n:Nat} {ys:List {j:Nat // j<n}} (h:BkJ n 0 ys) (m:Nat) (hm:m<n):(⟨m,hm⟩:{j:Nat // j<n})∈ys:=by
 have hl:n-1-m<ys.length:=by rw [h.1];omega
 have:=h.2 _ _ (List.getElem?_eq_getElem hl)
 have e2:ys[n-1-m]=⟨m,hm⟩:=Subtype.ext (by show (ys[n-1-m]).1=m;omega);rw [<- e2];exact List.getElem_mem hl
theorem hitRoot_v (A:Option Addr) (c:Nat) (R:List Nr) (M:List Re) (g:Nat) (x y:Int) (d j:Nat) (w:World) (hT:TrOK (R.map Nr.n)) (h:NrV w A R) (hM:ReB w g M) (hMR:M.length=R.length) (hL:∀ S∈M,Lw S.x S.y S.u S.v) (hh:HitN (R.map Nr.n) M x y d 0 j) :
  Calls Tryz.prog 47 #[.agg #[.slice A R.length c],.slice (some ⟨g,0,none⟩) R.length R.length,.int .i64 x,.int .i64 y] w fun e w'=>e=.returned (.int .i64 (j:Int))∧Below w.heap.size w w':=by
 have hl10:R.length≤10:=by have:=hT.l10;rwa [List.length_map] at this
 have hl1:1≤R.length:=by have:=hT.l1;rwa [List.length_map] at this
 have HV:=Lib.hid h;have HM:=Lib.hid hM;have HMR:=Lib.hid hMR;have HLW:=Lib.hid hL;have HH:=Lib.hid hh;have HT:=Lib.hid hT;clear h hM hMR hL hh hT;refine (callsIn_wide (n:=6)).1 ?_;refine callsIn_of_wp_marks Tryz.func47 rfl trivial ?_ rfl
 simp only [Tryz.ntmps47,List.size_toArray,List.length_cons,List.length_nil,Nat.reduceAdd,Nat.reduceSub,Array.replicate_succ,Array.replicate_zero,List.push_toArray,List.append_toArray,List.nil_append,List.cons_append]
 gi_wp2
 refine wpIn_scopeS ?_
 gi_wp2
 refine wpIn_label ?_
 gi_wp2
 obtain ⟨W0,hW0,hs0⟩:∃ W0,(((((w.alloc (.cells #[.slice A R.length c] 30)).alloc (.cells #[.slice (some ⟨g,0,none⟩) R.length R.length] 51)).alloc (.cells #[.int .i64 x] 3)).alloc (.cells #[.int .i64 y] 3)).alloc (.cells #[.int .i64 0] 3))=W0∧HtW w A c R.length g x y 0 W0:=by
  refine ⟨_,rfl,?_⟩;obtain ⟨W4,e4,n1,n2,n3,n4,hz,hb4⟩:=four w (.cells #[.slice A R.length c] 30) (.cells #[.slice (some ⟨g,0,none⟩) R.length R.length] 51) (.cells #[.int .i64 x] 3) (.cells #[.int .i64 y] 3);rw [e4]
  obtain ⟨W5,e5⟩:∃ W5,W4.alloc (.cells #[.int .i64 0] 3)=W5:=⟨_,rfl⟩
  have n5:=World.alloc_heap_new W4 (.cells #[.int .i64 0] 3)
  have z5:W5.heap.size=w.heap.size+5:=by rw [<- e5,World.size_alloc,hz]
  have b5:Below W4.heap.size W4 W5:=by rw [<- e5];exact balloc (Below.refl _ _)
  rw [e5,hz] at n5;rw [e5]
  have up:∀ k,k<w.heap.size+4→W5.heap[k]?=W4.heap[k]?:=fun k hk=>b5.block k (by omega)
  exact ⟨(up _ (by omega)).trans n1,(up _ (by omega)).trans n2,(up _ (by omega)).trans n3,(up _ (by omega)).trans n4,n5,bkeep2 hb4 b5,by omega⟩
 change Code.wpIn Fence.wide 6 Tryz.prog _ _ _ (((((w.alloc (.cells #[.slice A R.length c] 30)).alloc (.cells #[.slice (some ⟨g,0,none⟩) R.length R.length] 51)).alloc (.cells #[.int .i64 x] 3)).alloc (.cells #[.int .i64 y] 3)).alloc (.cells #[.int .i64 0] 3))
 rw [hW0];clear hW0
 refine wpIn_loop_ind (fun d a W=>∃ (i:Nat) (Ds:List Nat) (u10 u11 u12 u13 u14 u15 u16 u17 u18 u19 u20 u21 u22 u23 u24 u25 u26:Value),HitN (R.map Nr.n) M x y d i j∧i<R.length∧HtW w A c R.length g x y i W∧Mks (w.heap.size+5) W Ds∧a=⟨#[.agg #[.slice A R.length c],.slice (some ⟨g,0,none⟩) R.length R.length,.int .i64 x,.int .i64 y,.pointer (some ⟨w.heap.size,0,none⟩),.pointer (some ⟨w.heap.size+1,0,none⟩),.pointer (some ⟨w.heap.size+1+1,0,none⟩),.pointer (some ⟨w.heap.size+1+1+1,0,none⟩),.int .i64 0,.pointer (some ⟨w.heap.size+1+1+1+1,0,none⟩),u10,u11,u12,u13,u14,u15,u16,u17,u18,u19,u20,u21,u22,u23,u24,u25,u26],Ds.map mkD⟩) d ⟨0,[],_,_,_,_,_,_,_,_,_,_,_,_,_,_,_,_,_,HH.out,hl1,hs0,⟨List.nodup_nil,fun D hD=>by simp at hD⟩,rfl⟩ ?_
 clear hs0 HH d W0;rintro d _ W ⟨i,Ds,u10,u11,u12,u13,u14,u15,u16,u17,u18,u19,u20,u21,u22,u23,u24,u25,u26,hh,hi,hs,hm,rfl⟩;have HS:=Lib.hid hs;have HMK:=Lib.hid hm;have HH:=Lib.hid hh;have hz:=hs.z;have xt:=cellS hs.t 0;have xh:=cellS hs.h 0;have HVW:=Lib.hid (show NrV W A R from HV.out.keep hs.l);have HMW:=Lib.hid (HM.out.keep hs.l);clear hs hm hh
 obtain ⟨ks,hks⟩:∃ ks,kidD (R.map Nr.n) i=ks:=⟨_,rfl⟩
 have h10:ks.length≤10:=by rw [<- hks];exact Nat.le_trans (kidD_len _ _) HT.out.l10
 have hkl:∀ z∈ks,z<R.length:=fun z hz=>by rw [<- hks] at hz;have:=kidD_lt hz;rwa [List.length_map] at this
 have HKS:=Lib.hid hks;have HKL:=Lib.hid hkl;clear hks hkl
 gi_wp2_with (first|(refine ⟨trivial,?_⟩;gi_at_call 54;refine (callsIn_wide.2 (kidsOf_v A c R (i:Int) _ HVW.out (by omega))).mono ?_;rintro e w1 ⟨⟨v,rfl,B,cb,rfl,hnv,hcb⟩,hb⟩)|(refine ⟨trivial,?_⟩;gi_at_call 74;refine (callsIn_wide.2 (backwardI_v _ _ _ _)).mono ?_;rintro e w2 ⟨rfl,rfl⟩))
 change Code.wpIn Fence.wide 6 Tryz.prog _ _ _ (w1.alloc (.cells #[.slice B (kidsM R (i:Int)).length cb] 26))
 rw [kidsM_eq,HKS.out] at hnv hcb ⊢;rw [List.length_map] at hcb ⊢
 obtain ⟨b,hbl,hbk⟩:∃ b,b<w1.heap.size∧(0<ks.length→∃ off,B=some ⟨b,off,none⟩∧∀ (m k:Nat),ks[m]?=some k→w1.cell? ⟨b,off+m,none⟩=some (.int .i64 (k:Int))):=by
  rcases Nat.eq_zero_or_pos ks.length with h0 | h0
  ·exact ⟨0,by have:=hb.size;omega,fun h=>by omega⟩
  ·obtain ⟨b,off,e,l,hc⟩:=hnv.cells (by rw [List.length_map];exact h0);exact ⟨b,l,fun _=>⟨off,e,fun m k hm=>hc m _ (by rw [List.getElem?_map,hm];rfl)⟩⟩
 obtain ⟨WQ,hWQ⟩:∃ WQ,w1.alloc (.cells #[.slice B ks.length cb] 26)=WQ:=⟨_,rfl⟩
 have hba:Below w1.heap.size w1 WQ:=by rw [<- hWQ];exact balloc (Below.refl _ _)
 have hnew:WQ.heap[w1.heap.size]?=some (.cells #[.slice B ks.length cb] 26 (0,0)):=by rw [<- hWQ];exact newS _ _
 have hszQ:WQ.heap.size=w1.heap.size+1:=by rw [<- hWQ,World.size_alloc]
 have hu0:BkAt WQ w1.heap.size b B cb ks.length ks:=⟨cellS hnew 0,fun h0=>let ⟨off,e,hc⟩:=hbk h0;⟨off,e,fun m k hm=>(hba.cell (p:=⟨b,off+m,none⟩) hbl).trans (hc m k hm)⟩⟩
 have hs1:HtW w A c R.length g x y i WQ:=(HS.out.below hb).below hba;have hm1:Mks (w.heap.size+5) WQ Ds:=(HMK.out.below hb).below hba
 have hdl:∀ D∈Ds,D<WQ.heap.size:=fun D hD=>(gE (hm1.2 D hD).2).1
 have hs5:=hs1.z;rw [hWQ];clear hWQ hba hnew hbk hnv hb HS HMK HVW HMW xt xh hz
 refine wpIn_rangeFunc_ownG rfl (by omega) (gf:=110) (lb:=#[.pointer (some ⟨w1.heap.size,0,none⟩)]) rfl trivial (enters_of Tryz.func110 (by kernel_rfl) rfl)
  (bki_stops Fence.wide _ trivial rfl (by omega) w1.heap.size b B cb ks.length ks rfl (by omega) WQ (by omega) (by omega) hu0) KU.trans
  (fun W l o o' hl ho hc hw=>⟨World.putObj_heap_other (by omega),World.putObj_heap_other (by omega),World.putObj_heap_other (by omega)⟩) (Below.refl _ _) (fun _=>rfl)
  (fun pre W=>(∀ z∈pre,hpR x y (rcN M (ks[z.1]'z.2))=false)∧HtW w A c R.length g x y i W∧Mks (w.heap.size+5) W Ds∧WQ.heap.size≤W.heap.size)
  (fun c' pre W=>c'=.exit 1∧∃ (pre':List {j:Nat // j<ks.length}) (z:{j:Nat // j<ks.length}),pre=pre' ++ [z]∧(∀ z'∈pre',hpR x y (rcN M (ks[z'.1]'z'.2))=false)∧hpR x y (rcN M (ks[z.1]'z.2))=true∧HtW w A c R.length g x y (ks[z.1]'z.2) W∧Mks (w.heap.size+5) W Ds)
  (fun pre X Y row hs hg hr=>⟨hs.1,hs.2.1.grown hg fun k e=>by have:=(hr k e).1;omega,hs.2.2.1.grown hg fun k e D hD=>by have:=(hr k e).1;have:=hdl D hD;omega,Nat.le_trans hs.2.2.2 hg.size⟩)
  (fun c' pre X Y row hs hg hr=>⟨hs.1,let ⟨p',z,e1,e2,e3,e4,e5⟩:=hs.2;⟨p',z,e1,e2,e3,e4.grown hg fun k e=>by have:=(hr k e).1;omega,e5.grown hg fun k e D hD=>by have:=(hr k e).1;have:=hdl D hD;omega⟩⟩)
  ⟨fun z hz=>by simp at hz,hs1,hm1,Nat.le_refl _⟩
  (fun z=>{ tmps:=#[.agg #[.slice A R.length c],.slice (some ⟨g,0,none⟩) R.length R.length,.int .i64 x,.int .i64 y,.pointer (some ⟨w.heap.size,0,none⟩),.pointer (some ⟨w.heap.size+1,0,none⟩),.pointer (some ⟨w.heap.size+1+1,0,none⟩),.pointer (some ⟨w.heap.size+1+1+1,0,none⟩),.int .i64 0,.pointer (some ⟨w.heap.size+1+1+1+1,0,none⟩),u10,.int .i64 ((ks[z.1]'z.2:Nat):Int),.agg #[.slice A R.length c],.int .i64 (i:Int),.slice B ks.length cb,.func (.func 110) #[] #[.pointer (some ⟨w1.heap.size,0,none⟩)],.int .i64 (z.1:Int),.int .i64 ((ks[z.1]'z.2:Nat):Int),u18,u19,u20,u21,u22,u23,u24,u25,u26],defers:=[] }) ?assign ?body ?done ?stop
 case assign =>
  intro l z W K hK;unfold encI
  gi_wp2
  exact hK
 case body =>
  rintro l pre z W2 ⟨hno,hs,hm,hsz⟩ hlt
  obtain ⟨kz,hkz⟩:∃ kz,ks[z.1]'z.2=kz:=⟨_,rfl⟩
  have HKZ:=Lib.hid hkz;have hkR:kz<R.length:=HKL.out kz (by rw [<- hkz];exact List.getElem_mem _);rw [hkz]
  obtain ⟨S,hS⟩:∃ S,M[kz]?=some S:=⟨_,List.getElem?_eq_getElem (by rw [HMR.out];exact hkR)⟩
  obtain ⟨c0,c1,c2,c3⟩:=reB_cells (HM.out.keep hs.l) hS
  obtain ⟨q,hq⟩:∃ q,hpB S.x S.y S.u S.v x y=q:=⟨_,rfl⟩
  have HQ:=Lib.hid (show hpR x y (rcN M (ks[z.1]'z.2))=q by rw [hkz,rcN_at hS];exact hq)
  have HCA:Hid (∀ W':World,Calls Tryz.prog 46 #[.agg #[.int .i64 (S.x),.int .i64 (S.y),.int .i64 (S.u),.int .i64 (S.v)],.int .i64 x,.int .i64 y] W' fun e w'=>e=.returned (.bool q)∧Below W'.heap.size W' w'):=Lib.hid fun W'=>by
   have:=has_l S.x S.y S.u S.v x y W' (HLW.out S (List.mem_of_getElem? hS))
   rw [hq] at this;exact this
  have hdk:(kz:Int)<(R.length:Int):=by omega
  have lg:g<W2.heap.size:=Nat.lt_of_lt_of_le HM.out.lt hs.l.size;have xr:=cellS hs.r 0;have xp:=cellS hs.p 0;have xq:=cellS hs.q 0;have HS2:=Lib.hid hs;have HM2:=Lib.hid hm;have HNO:=Lib.hid hno;have hz2:=hs.z
  have lr:w.heap.size+1<W2.heap.size:=by omega
  have lp:w.heap.size+1+1<W2.heap.size:=by omega
  have lq:w.heap.size+1+1+1<W2.heap.size:=by omega
  clear hkz hS hq hs hm hno hu0 hs1 hm1;refine wpIn_block ?_
  refine wpIn_seq_k fun K1 hK1=>?_
  refine wpIn_namedH (fun W1 e1=>?_);replace e1:=Lib.hid e1;refine wpIn_region_growH 7 0 (·<7) (by kernel_rfl) (by kernel_rfl) (by kernel_rfl) rfl ?_
  iterate 7 (refine wpG_step (fun K hK=>?_);apply Exists.intro;refine ⟨.inl ⟨rfl,fun w' hw'=>?_⟩,?_⟩;(focus ((obtain ⟨hc,hf⟩:=bcell hw'.out);(have hcS:=bcellS hw'.out);go_simp <;> first | rfl|(go_at_call 46;exact HCA.out _)));(go_simp;refine hK _ ?_;clear hK K))
  refine wpG_nil ?_;refine wpK_tail (by kernel_rfl) (fun w1_9 h1_9=>?_);refine wpAny_end (by kernel_rfl) ?_
  have s1_a:W1.heap.size≤w1_9.heap.size:=by rw [e1.out];exact h1_9.out.size
  have b1_a:Below W1.heap.size W1 w1_9:=by rw [e1.out];exact bgrow (Below.refl _ _).drew h1_9
  refine NoPan.gen (fun wf=>Below W1.heap.size W1 wf) ?_ (fun wf1 hwf1=>?_)
  ·exact b1_a
  have E:=e1.out;subst E;clear e1 s1_a b1_a h1_9 w1_9;obtain ⟨hc1,hf1⟩:=bcell hwf1;clear hc1 hf1 c0 c1 c2 c3 xr xp xq HCA;have HB6:=Lib.hid hwf1;have hs6:W1.heap.size≤wf1.heap.size:=hwf1.size;have HS6:=Lib.hid (HS2.out.below hwf1);have HM6:=Lib.hid (HM2.out.below hwf1);clear hwf1;refine hK1 _ _ ?_;clear hK1 K1
  cases q
  ·refine wpIn_cond_false rfl ?_;refine wpIn_skip ?_;refine ⟨keepsFrom_below HB6.out,KU.of HB6.out (by omega) (by omega) (by omega),fun z' hz'=>?_,HS6.out,HM6.out,by omega⟩
   rcases List.mem_append.1 hz' with h | h
   ·exact HNO.out z' h
   ·obtain rfl:=List.mem_singleton.1 h;exact HQ.out
  ·refine wpIn_cond_true rfl ?_
   refine wpIn_seq_k fun K4 hK4=>?_
   refine wpIn_region_lift (by kernel_rfl) ?_;have xh:=cellS HS6.out.h 0;have fh:=frozenS HS6.out.h 0;go_wp2;refine wpIn_exit ?_;simp only [Exit.then,Exit.inBlock];refine ⟨(keepsFrom_below HB6.out).trans ((KeepsOthers.setCell _ _ _).from _),rfl,pre,z,rfl,HNO.out,HQ.out,?_,?_⟩
   ·rw [HKZ.out];exact HS6.out.set kz
   ·exact HM6.out.set (by omega) _
 case done =>
  rintro D ys WD hD hys ⟨hno,hs,hm,-⟩ hK
  have hl0:lastK (R.map Nr.n) M x y i=none:=by
   unfold lastK;rw [HKS.out]
   exact find_revN fun m z hz=>by
    obtain ⟨hm',e⟩:=List.getElem?_eq_some_iff.1 hz;rw [<- e];exact hno ⟨m,hm'⟩ (bkJ_all hys m hm')
  have HJ:=Lib.hid (show j=i by
   have:=HH.out
   cases d with
   | zero=>exact this.1
   | succ d=>obtain ⟨k,h1,_⟩:=this;rw [hl0] at h1;cases h1)
  have xh:=cellS hs.h 0
  have HF:=Lib.hid (And.intro hs.l (show Mks w.heap.size WD (D :: Ds) from ⟨List.nodup_cons.2 ⟨fun h=>by have:=hdl D h;omega,hm.1⟩,fun D' hD'=>by
   rcases List.mem_cons.1 hD' with rfl | h
   ·exact ⟨by omega,hK⟩
   ·obtain ⟨a,b⟩:=hm.2 D' h
    exact ⟨by omega,b⟩⟩))
  clear hno hs hm hK hl0 hu0 hs1 hm1
  gi_wp2
  refine leaves_all (D :: Ds) WD HF.out.2 HF.out.1 fun W' hb'=>?_
  refine ⟨_,results_tmp rfl _ _ _,?_,hb'⟩;rw [HJ.out]
  rfl
 case stop =>
  rintro D c' pre WD hD ⟨kk,hbj⟩ ⟨rfl,pre',z,rfl,hno,hyes,hs,hm⟩ hK
  have hl0:lastK (R.map Nr.n) M x y i=some (ks[z.1]'z.2):=by
   unfold lastK;rw [HKS.out]
   exact find_rev (List.getElem?_eq_getElem z.2) hyes fun m zz hm hz=>by
    obtain ⟨hm',e⟩:=List.getElem?_eq_some_iff.1 hz;rw [<- e];exact hno ⟨m,hm'⟩ (bkJ_stop hbj m hm' hm)
  refine wpIn_exit ?_
  have hfin:∃ d',d=d'+1∧HitN (R.map Nr.n) M x y d' (ks[z.1]'z.2) j:=by
   have:=HH.out
   cases d with
   | zero =>
    have h2:lastK (R.map Nr.n) M x y i=none:=this.2;rw [hl0] at h2
    cases h2
   | succ d'=>obtain ⟨k,h1,h2⟩:=this;rw [hl0] at h1;obtain rfl:=Option.some.inj h1;exact ⟨d',rfl,h2⟩
  obtain ⟨d',rfl,hh'⟩:=hfin;have hkR:ks[z.1]'z.2<R.length:=HKL.out _ (List.getElem_mem _)
  have hmk:Mks (w.heap.size+5) WD (D :: Ds):=⟨List.nodup_cons.2 ⟨fun h=>by have:=hdl D h;omega,hm.1⟩,fun D' hD'=>by
   rcases List.mem_cons.1 hD' with rfl | h
   ·exact ⟨by omega,hK⟩
   ·exact hm.2 D' h⟩
  exact ⟨d',rfl,ks[z.1]'z.2,D :: Ds,_,_,_,_,_,_,_,_,_,_,_,_,_,_,_,_,_,hh',hkR,hs,hmk,rfl⟩
end
section
attribute [local go_sem] givesUpon_value givesUpon_skip givesUpon_enter
theorem eqNilH (A:Option Addr) (n c:Nat) (w:World):(binOp .eql 51 (.slice A n c) (.slice none 0 0)).run Tryz.prog w=.ok (.bool A.isNone) w:=Lib.run_eql_slice_nil w _ _ A n c 0 0 Tryz.underlying51
attribute [local go_sem] eqNilH
def HtR (L:List Nd) (a b x y q:Int):Prop:=(((lyL L a b).length=0∨(rng x 0 (a-1)&&rng y 0 (b-1))=false)∧q=-1)∨(0<(lyL L a b).length∧(rng x 0 (a-1)&&rng y 0 (b-1))=true∧∃ d j:Nat,HitN L (lyL L a b) x y d 0 j∧q=(j:Int))
theorem htR_ex (L:List Nd) (a b x y:Int):∃ q,HtR L a b x y q:=by
 rcases Nat.eq_zero_or_pos (lyL L a b).length with hz | hz
 ·exact ⟨-1,.inl ⟨.inl hz,rfl⟩⟩
 ·cases h:(rng x 0 (a-1)&&rng y 0 (b-1))
  ·exact ⟨-1,.inl ⟨.inr h,rfl⟩⟩
  ·obtain ⟨d,j,hj⟩:=hitN_ex (lyL_ok hz).1 (lyL L a b) x y L.length 0 (by omega);exact ⟨j,.inr ⟨hz,h,d,j,hj,rfl⟩⟩
theorem rcN_root {L:List Nd} {a b:Int} (hz:0<(lyL L a b).length):rcN (lyL L a b) 0=⟨0,0,a,b⟩:=by
 refine rcN_at ?_;unfold lyL at *
 split at hz
 ·rename_i h
  rw [if_pos h];rw [List.length_map,List.length_range] at hz;rw [List.getElem?_map,List.getElem?_range hz,Option.map_some,lrM_zero]
 ·simp at hz
theorem hpB_root (a b x y:Int):hpB 0 0 a b x y=(rng x 0 (a-1)&&rng y 0 (b-1)):=by rw [hpB_sp,Int.zero_add,Int.zero_add]
def LyH (w:World) (v:Value) (k:Nat) (M:List Re):Prop:=∃ g:Nat,v=.slice (some ⟨g,0,none⟩) k k∧ReB w g M
theorem LyH.keep {w w':World} {v:Value} {k:Nat} {M:List Re} (h:LyH w v k M) (hb:Below w.heap.size w w'):LyH w' v k M:=let ⟨g,e,hr⟩:=h;⟨g,e,hr.keep hb⟩
theorem HitNode_v (A:Option Addr) (c k:Nat) (R:List Nr) (a b x y q:Int) (w:World) (hk:k=R.length) (h:NrV w A R) (hr:RdR w R) (hL:R.length≤1048576) (hm:∀ p∈R,p.n.cs.length≤1048576∧p.n.rs.length≤1048576) (hq:HtR (R.map Nr.n) a b x y q) :
  Calls Tryz.prog 21 #[.agg #[.slice A k c],.int .i64 a,.int .i64 b,.int .i64 x,.int .i64 y] w fun e w'=>e=.returned (.int .i64 q)∧Below w.heap.size w w':=by
 have hB0:Below w.heap.size w (w.alloc (.cells #[.slice A k c] 30 (0,0))):=balloc (Below.refl _ _);have HX:=hD (newS w (.cells #[.slice A k c] 30 (0,0)));have HB:=hD hB0;have HV:=hD (h.keep hB0);have HR:=hD (hr.keep hB0);have HM:=hD hm;have HK:=hD hk;have HQ:=hD hq;have x0:=cellS HX.out 0;clear hB0 h hr hm hk hq
 go_enter Tryz.func21,Tryz.ntmps21
 go_wp2_with fail
 refine (LayoutTree_x A c k R a b _ HK.out HV.out HR.out hL HM.out).mono ?_;rintro e w1 ⟨⟨v,rfl,hx,hnil⟩,hb⟩;clear x0;replace HX:=hbk hb HX;replace HV:=hD (HV.out.keep hb);replace HR:=hD (HR.out.keep hb);replace HB:=hD (bkeep2 HB.out hb);clear hb;have x0:=cellS HX.out 0
 rcases Nat.eq_zero_or_pos (lyL (R.map Nr.n) a b).length with hz | hz
 ·obtain rfl:=hnil hz
  have HN:=hD (show q=-1 by
   rcases HQ.out with ⟨_,e⟩ | ⟨h1,_⟩
   ·exact e
   ·omega)
  clear hx hnil hz HV HR HQ;go_wp2;go_ret;exact ⟨by rw [HN.out];rfl,HB.out⟩
 ·obtain ⟨hT,hMR,hLw⟩:=lyL_ok hz;have hrt:=rcN_root hz;obtain ⟨A1,rfl,hx1⟩:=hx.sl;obtain ⟨g,rfl,hg,hre⟩:=hx1 hz;rw [List.length_map] at hMR
  have hl0:0<R.length:=by omega
  have hlR:(lyL (R.map Nr.n) a b).length=k:=by have:=HK.out;omega
  have hk0:(0:Int)<(k:Int):=by have:=HK.out;omega
  have h0:(lyL (R.map Nr.n) a b)[0]?=some ⟨0,0,a,b⟩:=by
   have e:=List.getElem?_eq_getElem hz;rw [e,<- rcN_at e,hrt]
  have hlw0:Lw 0 0 a b:=hLw _ (List.mem_of_getElem? h0)
  obtain ⟨c0,c1,c2,c3⟩:(w1.cell? ⟨g,0,none⟩=some (.int .i64 0)∧w1.cell? ⟨g,1,none⟩=some (.int .i64 0)∧w1.cell? ⟨g,2,none⟩=some (.int .i64 a)∧w1.cell? ⟨g,3,none⟩=some (.int .i64 b)):=by
   have:=reB_cells hre h0
   simpa using this
  rw [hlR];have HRE:=hD hre;have HT:=hD hT;have HMR:=hD hMR;have HLW:=hD hLw;have HZ:=hD hz;have HLW0:=hD hlw0;clear hx hx1 hnil hre hT hMR hLw hrt hz h0 hlw0 hlR
  obtain ⟨t,ht⟩:∃ t,(rng x 0 (a-1)&&rng y 0 (b-1))=t:=⟨_,rfl⟩
  have HTT:=hD ht
  have HCA:Hid (∀ W':World,Calls Tryz.prog 46 #[.agg #[.int .i64 (0),.int .i64 (0),.int .i64 (a),.int .i64 (b)],.int .i64 x,.int .i64 y] W' fun e w'=>e=.returned (.bool t)∧Below W'.heap.size W' w'):=hD fun W'=>by
   have:=has_l 0 0 a b x y W' HLW0.out
   rw [hpB_root,ht] at this;exact this
  clear ht
  go_wp2_with fail
  refine (HCA.out _).mono ?_;rintro e w2 ⟨rfl,hb⟩;clear x0 c0 c1 c2 c3 HCA;replace HX:=hbk hb HX;replace HV:=hD (HV.out.keep hb);replace HR:=hD (HR.out.keep hb);replace HRE:=hD (HRE.out.keep hb);replace HB:=hD (bkeep2 HB.out hb);clear hb;have x0:=cellS HX.out 0
  cases t
  ·have HN:=hD (show q=-1 by
    rcases HQ.out with ⟨_,e⟩ | ⟨_,h1,_⟩
    ·exact e
    ·rw [HTT.out] at h1;cases h1)
   clear HQ HV HR HRE;go_wp2;go_ret;exact ⟨by rw [HN.out];rfl,HB.out⟩
  ·have HN:=hD (show ∃ d j:Nat,HitN (R.map Nr.n) (lyL (R.map Nr.n) a b) x y d 0 j∧q=(j:Int) by
    rcases HQ.out with ⟨h1 | h1,_⟩ | ⟨_,_,h1⟩
    ·have:=HZ.out;omega
    ·rw [HTT.out] at h1;cases h1
    ·exact h1)
   obtain ⟨d,j,hh,rfl⟩:=HN.out;have HC:=hD (HK.out ▸ hitRoot_v A c R _ g x y d j w2 HT.out HV.out HRE.out HMR.out HLW.out hh);clear HQ HN hh HRE
   go_wp2_with fail
   refine HC.out.mono ?_;rintro e w3 ⟨rfl,hb⟩;clear x0 HC;replace HB:=hD (bkeep2 HB.out hb);clear hb;go_wp2;go_ret;exact ⟨rfl,HB.out⟩
theorem sHitNode_v (A:Option Addr) (c k:Nat) (R:List Nr) (a b x y q:Int) (w:World) (hk:k=R.length) (h:NrV w A R) (hr:RdR w R) (hL:R.length≤1048576) (hm:∀ p∈R,p.n.cs.length≤1048576∧p.n.rs.length≤1048576) (hq:HtR (R.map Nr.n) a b x y q) :
  Calls Tryz.prog 20 #[.agg #[.slice A k c],.int .i64 a,.int .i64 b,.int .i64 x,.int .i64 y] w fun e w'=>e=.returned (.int .i64 q)∧Below w.heap.size w w':=by
 have hB0:Below w.heap.size w (w.alloc (.cells #[.slice A k c] 30 (0,0))):=balloc (Below.refl _ _);have HX:=hD (newS w (.cells #[.slice A k c] 30 (0,0)));have HB:=hD hB0;have HV:=hD (h.keep hB0);have HR:=hD (hr.keep hB0);have HM:=hD hm;have HK:=hD hk;have HQ:=hD hq;have x0:=cellS HX.out 0;clear hB0 h hr hm hk hq
 cases ht:treeB (R.map Nr.n)
 ·have HN:=hD (show q=-1 by
   rcases HQ.out with ⟨_,e⟩ | ⟨h1,_⟩
   ·exact e
   ·simp [lyL,ht] at h1)
  have HT:=hD ht;clear ht
  go_enter Tryz.func20,Tryz.ntmps20
  go_wp2_with fail
  with_reducible refine (svalidTree_n A c k R false _ HK.out HV.out HR.out hL HM.out HT.out).mono ?_
  rintro e w1 ⟨rfl,hb⟩;clear x0;replace HX:=hbk hb HX;replace HB:=hD (bkeep2 HB.out hb);clear hb;go_wp2;go_ret;exact ⟨by rw [HN.out];rfl,HB.out⟩
 ·cases hg:rgG a b
  ·have HN:=hD (show q=-1 by
    rcases HQ.out with ⟨_,e⟩ | ⟨h1,_⟩
    ·exact e
    ·simp [lyL,hg] at h1)
   have HT:=hD ht;clear ht
   go_enter Tryz.func20,Tryz.ntmps20
   go_wp2_with fail
   with_reducible refine (svalidTree_n A c k R true _ HK.out HV.out HR.out hL HM.out HT.out).mono ?_
   rintro e w1 ⟨rfl,hb⟩;clear x0;replace HX:=hbk hb HX;replace HB:=hD (bkeep2 HB.out hb);clear hb
   go_wp2_with fail
   with_reducible refine (goodRoom_g a b _).mono ?_
   rintro e w2 ⟨rfl,rfl⟩;rw [hg];clear hg;go_wp2;go_ret;exact ⟨by rw [HN.out];rfl,HB.out⟩
  ·have hly:lyL (R.map Nr.n) a b=(List.range k).map (lrM (R.map Nr.n) a b):=by simp [lyL,ht,hg,HK.out]
   have HT:=hD ht;have HG:=hD (rgG_yes hg);have hwa:IntKind.i64.wrap (a-1)=a-1:=IntWalk.i64_in _ (by have:=HG.out;omega);have hwb:IntKind.i64.wrap (b-1)=b-1:=IntWalk.i64_in _ (by have:=HG.out;omega)
   have hlen:(lyL (R.map Nr.n) a b).length=k:=by rw [hly,List.length_map,List.length_range]
   have hk1:1≤k:=by have:=(trOK_of ht).l1;rw [List.length_map] at this;have:=HK.out;omega
   have hok:=lyL_ok (L:=R.map Nr.n) (a:=a) (b:=b) (by omega);have HOK:=hD hok;have HLY:=hD hly;clear ht hly hok
   cases hrx:rng x 0 (a-1)
   ·have HN:=hD (show q=-1 by
     rcases HQ.out with ⟨_,e⟩ | ⟨_,h1,_⟩
     ·exact e
     ·rw [hrx] at h1;cases h1)
    go_enter Tryz.func20,Tryz.ntmps20
    go_wp2_with fail
    with_reducible refine (svalidTree_n A c k R true _ HK.out HV.out HR.out hL HM.out HT.out).mono ?_
    rintro e w1 ⟨rfl,hb⟩;clear x0;replace HX:=hbk hb HX;replace HB:=hD (bkeep2 HB.out hb);clear hb
    go_wp2_with fail
    with_reducible refine (goodRoom_g a b _).mono ?_
    rintro e w2 ⟨rfl,rfl⟩;rw [hg];clear hg
    go_wp2_with fail
    with_reducible refine (inRange_any _ _ _ _).mono ?_
    rintro e w2 ⟨rfl,rfl⟩;rw [hrx];clear hrx;go_wp2;go_ret;exact ⟨by rw [HN.out];rfl,HB.out⟩
   ·cases hry:rng y 0 (b-1)
    ·have HN:=hD (show q=-1 by
      rcases HQ.out with ⟨_,e⟩ | ⟨_,h1,_⟩
      ·exact e
      ·rw [hry,Bool.and_false] at h1;cases h1)
     go_enter Tryz.func20,Tryz.ntmps20
     go_wp2_with fail
     with_reducible refine (svalidTree_n A c k R true _ HK.out HV.out HR.out hL HM.out HT.out).mono ?_
     rintro e w1 ⟨rfl,hb⟩;clear x0;replace HX:=hbk hb HX;replace HB:=hD (bkeep2 HB.out hb);clear hb
     go_wp2_with fail
     with_reducible refine (goodRoom_g a b _).mono ?_
     rintro e w2 ⟨rfl,rfl⟩;rw [hg];clear hg
     go_wp2_with fail
     with_reducible refine (inRange_any _ _ _ _).mono ?_
     rintro e w2 ⟨rfl,rfl⟩;rw [hrx];clear hrx
     go_wp2_with fail
     with_reducible refine (inRange_any _ _ _ _).mono ?_
     rintro e w2 ⟨rfl,rfl⟩;rw [hry];clear hry;go_wp2;go_ret;exact ⟨by rw [HN.out];rfl,HB.out⟩
    ·have HN:=hD (show ∃ d j:Nat,HitN (R.map Nr.n) (lyL (R.map Nr.n) a b) x y d 0 j∧q=(j:Int) by
      rcases HQ.out with ⟨h1 | h1,_⟩ | ⟨_,_,h1⟩
      ·omega
      ·rw [hrx,hry] at h1;cases h1
      ·exact h1)
     obtain ⟨d,j,hh,rfl⟩:=HN.out
     have hl0:0<R.length:=by have:=HK.out;omega
     have HMR:(lyL (R.map Nr.n) a b).length=R.length:=by rw [hlen];exact HK.out
     have HS:=hD (fun (g:Nat) (W:World) (h1:NrV W A R) (h2:ReB W g (lyL (R.map Nr.n) a b))=>shit_v A c k R _ g x y (trOK_of HT.out) HK.out HMR HOK.out.2.2 d 0 j W hh hl0 h1 h2);clear HQ HN hh HMR hlen
     go_enter Tryz.func20,Tryz.ntmps20
     go_wp2_with fail
     with_reducible refine (svalidTree_n A c k R true _ HK.out HV.out HR.out hL HM.out HT.out).mono ?_
     rintro e w1 ⟨rfl,hb⟩;clear x0;replace HX:=hbk hb HX;replace HV:=hD (HV.out.keep hb);replace HR:=hD (HR.out.keep hb);replace HB:=hD (bkeep2 HB.out hb);clear hb
     go_wp2_with fail
     with_reducible refine (goodRoom_g a b _).mono ?_
     rintro e w2 ⟨rfl,rfl⟩;rw [hg];clear hg
     go_wp2_with fail
     with_reducible refine (inRange_any _ _ _ _).mono ?_
     rintro e w2 ⟨rfl,rfl⟩;rw [hrx];clear hrx
     go_wp2_with fail
     with_reducible refine (inRange_any _ _ _ _).mono ?_
     rintro e w2 ⟨rfl,rfl⟩;rw [hry];clear hry;have x0:=cellS HX.out 0;have hs0:w.heap.size<w1.heap.size:=ltS HX.out
     go_wp2_with fail
     refine wp_region_rxl 8 1 [] #[true,true,true,true,true,true,true,true,false] (by kernel_rfl) (by kernel_rfl) (by kernel_rfl) (XV (.agg #[.slice A k c]) :: XV (.agg #[.slice A k c]) :: XV (.int .i64 a) :: XV (.int .i64 b) :: (fun v z=>LyH z v k (lyL (R.map Nr.n) a b)) :: XV (.int .i64 x) :: XV (.int .i64 y) :: XV (.int .i64 (j:Int)) :: []) (by kernel_rfl) (by kernel_rfl) (by kernel_rfl) ?hTs ?hXs ?hops ?hfin
     case hTs =>
      intro T hT;simp only [List.mem_cons,List.not_mem_nil,or_false] at hT
      rcases hT with rfl | rfl | rfl | rfl | rfl | rfl | rfl | rfl <;> first | exact stay_V _ | exact stay_T | exact stay_of (fun v a b x g=>x.keep g) | exact stay_of (fun v a b x g=>x)
     case hXs =>
      intro x d s hx;exact absurd hx (List.not_mem_nil)
     case hops =>
      refine ⟨opOK_rx [(5,none)] (by kernel_rfl) rfl ?_,?_⟩
      ·intro act w' hw' h1;obtain ⟨hk,hf⟩:=evkf act;generalize act.eval=ρ at *;replace h1:ρ (.tmp 5)=.pointer (some ⟨w.heap.size,0,none⟩):=h1
       refine gxB hw' fun K hK hc hf'=>?_
       go_simp;exact hK _ _ ⟨rfl,Gr.refl _⟩
      refine ⟨opOK_rx [(5,none)] (by kernel_rfl) rfl ?_,?_⟩
      ·intro act w' hw' h1;obtain ⟨hk,hf⟩:=evkf act;generalize act.eval=ρ at *;replace h1:ρ (.tmp 5)=.pointer (some ⟨w.heap.size,0,none⟩):=h1
       refine gxB hw' fun K hK hc hf'=>?_
       go_simp;exact hK _ _ ⟨rfl,Gr.refl _⟩
      refine ⟨opOK_rx [(1,none)] (by kernel_rfl) rfl ?_,?_⟩
      ·intro act w' hw' h1;obtain ⟨hk,hf⟩:=evkf act;generalize act.eval=ρ at *;replace h1:ρ (.tmp 1)=.int .i64 a:=h1
       refine gxB hw' fun K hK hc hf'=>?_
       go_simp;exact hK _ _ ⟨rfl,Gr.refl _⟩
      refine ⟨opOK_rx [(2,none)] (by kernel_rfl) rfl ?_,?_⟩
      ·intro act w' hw' h1;obtain ⟨hk,hf⟩:=evkf act;generalize act.eval=ρ at *;replace h1:ρ (.tmp 2)=.int .i64 b:=h1
       refine gxB hw' fun K hK hc hf'=>?_
       go_simp;exact hK _ _ ⟨rfl,Gr.refl _⟩
      refine ⟨opOK_rx [(35,some 1),(36,some 2),(37,some 3)] (by kernel_rfl) rfl ?_,?_⟩
      ·intro act w' hw' h1 h2 h3;obtain ⟨hk,hf⟩:=evkf act;generalize act.eval=ρ at *;replace h1:ρ (.tmp 35)=.agg #[.slice A k c]:=h1;replace h2:ρ (.tmp 36)=.int .i64 a:=h2;replace h3:ρ (.tmp 37)=.int .i64 b:=h3
       refine gxB hw' fun K hK hc hf'=>?_
       go_simp
       (refine (slayout_v A c k R a b _ (trOK_of HT.out) HK.out (HV.out.keep (bdrewn hw'.out)) (HR.out.keep (bdrewn hw'.out)) HG.out.1 HG.out.2).mono ?_);rintro e w3 ⟨⟨g,rfl,hgl,hre⟩,hb1⟩;rw [<- HLY.out] at hre;exact ⟨_,rfl,hK _ _ ⟨⟨g,rfl,hre⟩,Gr.of hb1⟩⟩
      refine ⟨opOK_rx [(3,none)] (by kernel_rfl) rfl ?_,?_⟩
      ·intro act w' hw' h1;obtain ⟨hk,hf⟩:=evkf act;generalize act.eval=ρ at *;replace h1:ρ (.tmp 3)=.int .i64 x:=h1
       refine gxB hw' fun K hK hc hf'=>?_
       go_simp;exact hK _ _ ⟨rfl,Gr.refl _⟩
      refine ⟨opOK_rx [(4,none)] (by kernel_rfl) rfl ?_,?_⟩
      ·intro act w' hw' h1;obtain ⟨hk,hf⟩:=evkf act;generalize act.eval=ρ at *;replace h1:ρ (.tmp 4)=.int .i64 y:=h1
       refine gxB hw' fun K hK hc hf'=>?_
       go_simp;exact hK _ _ ⟨rfl,Gr.refl _⟩
      refine ⟨opOK_rx [(34,some 0),(38,some 4),(39,some 5),(40,some 6)] (by kernel_rfl) rfl ?_,?_⟩
      ·intro act w' hw' h1 h2 h3 h4;obtain ⟨hk,hf⟩:=evkf act;generalize act.eval=ρ at *;replace h1:ρ (.tmp 34)=.agg #[.slice A k c]:=h1;replace h2:(fun v z=>LyH z v k (lyL (R.map Nr.n) a b)) (ρ (.tmp 38)) w':=h2;replace h3:ρ (.tmp 39)=.int .i64 x:=h3;replace h4:ρ (.tmp 40)=.int .i64 y:=h4;refine gx_gen (fun K hK=>?_)
       obtain ⟨g,e2,hre⟩:=h2;obtain ⟨hc,hf'⟩:=bcell (bdrewn hw'.out);go_simp;refine (HS.out g _ (HV.out.keep (bdrewn hw'.out)) hre).mono ?_;rintro e w3 ⟨rfl,hb1⟩;exact ⟨_,rfl,hK _ _ ⟨rfl,Gr.of hb1⟩⟩
      exact trivial
     case hfin =>
      intro w5 hg5;intro v34 t34;replace t34:v34=.agg #[.slice A k c]:=t34;subst t34;intro v35 t35;replace t35:v35=.agg #[.slice A k c]:=t35;subst t35;intro v36 t36;replace t36:v36=.int .i64 a:=t36;subst t36;intro v37 t37;replace t37:v37=.int .i64 b:=t37;subst t37;intro v38 t38;replace t38:(fun v z=>LyH z v k (lyL (R.map Nr.n) a b)) v38 w5:=t38;intro v39 t39;replace t39:v39=.int .i64 x:=t39
      subst t39;intro v40 t40;replace t40:v40=.int .i64 y:=t40;subst t40;intro v41 t41;replace t41:v41=.int .i64 (j:Int):=t41;subst t41;have hb5:=bdrewn hg5.out;clear hg5;simp only [finP,List.take_succ_cons,List.take_zero,Act.put,List.setIfInBounds_toArray,List.set_cons_succ,List.set_cons_zero];replace HB:=hD (bkeep2 HB.out hb5);clear hb5 HS x0;refine wpAny_one (i:=8) (by kernel_rfl) rfl rfl ?_
      go_simp;refine wpAny_end (by kernel_rfl) ?_;refine NoPan.thn ?_;go_wp2;go_ret;exact ⟨rfl,HB.out⟩
end
end Go.Proofs.YtmmfifgdgbmgjaaGreat
