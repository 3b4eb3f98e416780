import Derived.Test.YtfnpdlnepjhljaaGreatQH08
import Derived.Laws.EntriesVeiled
set_option linter.unusedVariables false
set_option linter.unusedSimpArgs false
set_option maxRecDepth 100000
set_option maxHeartbeats 16000000
namespace Go.Proofs.YtfnpdlnepjhljaaGreat
open Go.RowKit
attribute [local go_sem] kZb kZp kZg
def spB (n:Nd):Bool:=rng n.ww 0 30&&(rng n.hh 0 30&&(rng n.ki 0 2&&(n.pk.ok&&(decide (n.pk.w=0)&&(decide (n.pk.h=0)&&(plB n.pl&&(decide (n.ce.cw=0)&&decide (n.ce.ch=0))))))))
theorem nd_sp (n:Nd):ndB n=(spB n&&ownB n):=by
 unfold ndB spB;generalize rng n.ww 0 30=a1;generalize rng n.hh 0 30=a2;generalize rng n.ki 0 2=a3;generalize ownB n=a4;generalize n.pk.ok=a5;generalize decide (n.pk.w=0)=a6;generalize decide (n.pk.h=0)=a7;generalize decide (n.ce.cw=0)=a8;generalize decide (n.ce.ch=0)=a9;generalize plB n.pl=b1
 cases a1 <;> cases a2 <;> cases a3 <;> cases a4 <;> cases a5 <;> cases a6 <;> cases a7 <;> cases a8 <;> cases a9 <;> cases b1 <;> rfl
theorem hZo {x:Int} (h:decide (x=0)=true):(x != 0)=false:=by simp [bne,eqb_t h]
theorem neb_f {x:Int} (h:decide (x=0)=false):(x != 0)=true:=by simp [bne,eqb_f h]
theorem eZp (A:Option Addr) (c:Nat) (R:List Nr) (i:Nat) (p:Nr) (w:World) (h:NrV w A R) (hr:RdR w R) (hp:R[i]?=some p) (hL:R.length≤1048576) (hm:∀ p∈R,p.n.cs.length≤1048576∧p.n.rs.length≤1048576) (hb:spB p.n=false) :
  Calls Tryz.prog 101 #[.agg #[.slice A R.length c],.int .i64 i] w fun e w'=>e=.returned (.bool false)∧Below w.heap.size w w':=by
 have hi:i<R.length:=(List.getElem?_eq_some_iff.1 hp).1
 have hii:(i:Int)<(R.length:Int):=by omega
 have hmp:=hm p (List.mem_of_getElem? hp);obtain ⟨mp1,mp2⟩:=hmp;obtain ⟨bl,off,rfl,hbl,hc⟩:=h.cells (by omega);have hB0:Below w.heap.size w (w.alloc (.cells #[.slice (some ⟨bl,off,none⟩) R.length c] 25 (0,0))):=jZd (Below.refl _ _);have HX:=hD (newS w (.cells #[.slice (some ⟨bl,off,none⟩) R.length c] 25 (0,0)));have HLR:=hD (pZi (hc i p hp) (hB0.block bl hbl));have HV:=hD (h.keep hB0)
 have HR:=hD (hr.keep hB0);have HB:=hD hB0;have HM:=hD hm;have HG:=hD hp;clear hc h hr hm hp hB0
 go_enter Tryz.func101,Tryz.ntmps101
 go_upto_region 2 with (first|(refine ldN _ p bl (off+i*34) rfl rfl rfl HLR.out ?_)|(refine stN (.tmp 5) (.tmp 11) p (w.heap.size+1) 0 rfl rfl rfl rfl (uZx _ _ _) (by show (0+34:Nat)≤34;omega) ?_))
 refine kZf (fun W=>W.heap[w.heap.size]?=some (.cells #[.slice (some ⟨bl,off,none⟩) R.length c] 25 (0,0))∧W.heap[w.heap.size+1]?=some (.cells (jZj p).toArray 43 (0,0))∧NrV W (some ⟨bl,off,none⟩) R∧RdR W R∧Below w.heap.size w W) ?hw (fun W h0=>?_)
 case hw =>
  have hbb:Below (w.alloc (.cells #[.slice (some ⟨bl,off,none⟩) R.length c] 25 (0,0))).heap.size (w.alloc (.cells #[.slice (some ⟨bl,off,none⟩) R.length c] 25 (0,0))) (((w.alloc (.cells #[.slice (some ⟨bl,off,none⟩) R.length c] 25 (0,0))).alloc (.cells #[.int .i64 0,.int .i64 0,.int .i64 0,.bool false,.int .i64 0,.slice none 0 0,.slice none 0 0,.int .i64 0,.int .i64 0,.int .i64 0,.bool false,.bool false,.bool false,.int .i64 0,.int .i64 0,.int .i64 0,.int .i64 0,.int .i64 0,.int .i64 0,.int .i64 0,.int .i64 0,.int .i64 0,.int .i64 0,.int .i64 0,.int .i64 0,.int .i64 0,.int .i64 0,.int .i64 0,.int .i64 0,.int .i64 0,.int .i64 0,.int .i64 0,.int .i64 0,.int .i64 0] 43)).setCells (w.heap.size+1) 0 (jZj p)):=jZi (by simp) _ _ _ (jZd (Below.refl _ _))
  exact ⟨(hbb.block _ (ltS HX.out)).trans HX.out,by rw [jZ4 (jZj p) 0 _ _ (uZx w _ _),pZ3 (by rfl)],HV.out.keep hbb,HR.out.keep hbb,jZa HB.out hbb⟩
 clear HX HLR HV HR HB;obtain ⟨hx,hn,hv,hr,hb0⟩:=h0;have HX:=hD hx;have HN:=hD hn;have HV:=hD hv;have HR:=hD hr;have HB:=hD hb0;clear hx hn hv hr hb0
 cases h1:rng p.n.ww 0 30
 ·clear hb;have hr:=kZ6 HN.out;obtain ⟨x0,x1,x2,x4,x5,x6,x7,x8,x20,x21⟩:=jZf HN.out;have hrp:=kZ4 hr;have hrl:=kZ2 hr;have hrc:=kZw hr;simp only [Nat.zero_add] at hrp hrl hrc;have HRP:=hD hrp;have HRL:=hD hrl;have HRC:=hD hrc;clear hr hrp hrl hrc
  go_wp2_with (first|(refine jZo HRP rfl rfl rfl ?_)|(refine jZk HRL rfl rfl rfl ?_)|(refine jZ7 HRC rfl rfl rfl ?_))
  with_reducible refine (jZh _ 0 30 false _ h1).mono ?_
  rintro e wq ⟨rfl,rfl⟩
  go_wp2_with (first|(refine jZo HRP rfl rfl rfl ?_)|(refine jZk HRL rfl rfl rfl ?_)|(refine jZ7 HRC rfl rfl rfl ?_))
  go_ret;exact ⟨rfl,HB.out⟩
 cases h2:rng p.n.hh 0 30
 ·clear hb;have hr:=kZ6 HN.out;obtain ⟨x0,x1,x2,x4,x5,x6,x7,x8,x20,x21⟩:=jZf HN.out;have hrp:=kZ4 hr;have hrl:=kZ2 hr;have hrc:=kZw hr;simp only [Nat.zero_add] at hrp hrl hrc;have HRP:=hD hrp;have HRL:=hD hrl;have HRC:=hD hrc;clear hr hrp hrl hrc
  go_wp2_with (first|(refine jZo HRP rfl rfl rfl ?_)|(refine jZk HRL rfl rfl rfl ?_)|(refine jZ7 HRC rfl rfl rfl ?_))
  with_reducible refine (jZh _ 0 30 true _ h1).mono ?_
  rintro e wq ⟨rfl,rfl⟩
  go_wp2_with (first|(refine jZo HRP rfl rfl rfl ?_)|(refine jZk HRL rfl rfl rfl ?_)|(refine jZ7 HRC rfl rfl rfl ?_))
  with_reducible refine (jZh _ 0 30 false _ h2).mono ?_
  rintro e wq ⟨rfl,rfl⟩
  go_wp2_with (first|(refine jZo HRP rfl rfl rfl ?_)|(refine jZk HRL rfl rfl rfl ?_)|(refine jZ7 HRC rfl rfl rfl ?_))
  go_ret;exact ⟨rfl,HB.out⟩
 cases h3:rng p.n.ki 0 2
 ·clear hb;have hr:=kZ6 HN.out;obtain ⟨x0,x1,x2,x4,x5,x6,x7,x8,x20,x21⟩:=jZf HN.out;have hrp:=kZ4 hr;have hrl:=kZ2 hr;have hrc:=kZw hr;simp only [Nat.zero_add] at hrp hrl hrc;have HRP:=hD hrp;have HRL:=hD hrl;have HRC:=hD hrc;clear hr hrp hrl hrc
  go_wp2_with (first|(refine jZo HRP rfl rfl rfl ?_)|(refine jZk HRL rfl rfl rfl ?_)|(refine jZ7 HRC rfl rfl rfl ?_))
  with_reducible refine (jZh _ 0 30 true _ h1).mono ?_
  rintro e wq ⟨rfl,rfl⟩
  go_wp2_with (first|(refine jZo HRP rfl rfl rfl ?_)|(refine jZk HRL rfl rfl rfl ?_)|(refine jZ7 HRC rfl rfl rfl ?_))
  with_reducible refine (jZh _ 0 30 true _ h2).mono ?_
  rintro e wq ⟨rfl,rfl⟩
  go_wp2_with (first|(refine jZo HRP rfl rfl rfl ?_)|(refine jZk HRL rfl rfl rfl ?_)|(refine jZ7 HRC rfl rfl rfl ?_))
  with_reducible refine (jZh _ 0 2 false _ h3).mono ?_
  rintro e wq ⟨rfl,rfl⟩
  go_wp2_with (first|(refine jZo HRP rfl rfl rfl ?_)|(refine jZk HRL rfl rfl rfl ?_)|(refine jZ7 HRC rfl rfl rfl ?_))
  go_ret;exact ⟨rfl,HB.out⟩
 cases h4:p.n.pk.ok
 ·clear hb;have hr:=kZ6 HN.out;obtain ⟨x0,x1,x2,x4,x5,x6,x7,x8,x20,x21⟩:=jZf HN.out;have hrp:=kZ4 hr;have hrl:=kZ2 hr;have hrc:=kZw hr;simp only [Nat.zero_add] at hrp hrl hrc;have HRP:=hD hrp;have HRL:=hD hrl;have HRC:=hD hrc;clear hr hrp hrl hrc
  go_wp2_with (first|(refine jZo HRP rfl rfl rfl ?_)|(refine jZk HRL rfl rfl rfl ?_)|(refine jZ7 HRC rfl rfl rfl ?_))
  with_reducible refine (jZh _ 0 30 true _ h1).mono ?_
  rintro e wq ⟨rfl,rfl⟩
  go_wp2_with (first|(refine jZo HRP rfl rfl rfl ?_)|(refine jZk HRL rfl rfl rfl ?_)|(refine jZ7 HRC rfl rfl rfl ?_))
  with_reducible refine (jZh _ 0 30 true _ h2).mono ?_
  rintro e wq ⟨rfl,rfl⟩
  go_wp2_with (first|(refine jZo HRP rfl rfl rfl ?_)|(refine jZk HRL rfl rfl rfl ?_)|(refine jZ7 HRC rfl rfl rfl ?_))
  with_reducible refine (jZh _ 0 2 true _ h3).mono ?_
  rintro e wq ⟨rfl,rfl⟩
  go_wp2_with (first|(refine jZo HRP rfl rfl rfl ?_)|(refine jZk HRL rfl rfl rfl ?_)|(refine jZ7 HRC rfl rfl rfl ?_))
  with_reducible refine (gZt p.n.pk false h4 _).mono ?_
  rintro e v1 ⟨rfl,hb1⟩;clear x0 x1 x2 x4 x5 x6 x7 x8 x20 x21 HRP HRL HRC;replace HX:=hbk hb1 HX;replace HN:=hbk hb1 HN;replace HV:=hD (HV.out.keep hb1);replace HR:=hD (HR.out.keep hb1);replace HB:=hD (jZa HB.out hb1);clear hb1;have hr:=kZ6 HN.out;obtain ⟨x0,x1,x2,x4,x5,x6,x7,x8,x20,x21⟩:=jZf HN.out;have hrp:=kZ4 hr;have hrl:=kZ2 hr;have hrc:=kZw hr
  simp only [Nat.zero_add] at hrp hrl hrc;have HRP:=hD hrp;have HRL:=hD hrl;have HRC:=hD hrc;clear hr hrp hrl hrc
  go_wp2_with (first|(refine jZo HRP rfl rfl rfl ?_)|(refine jZk HRL rfl rfl rfl ?_)|(refine jZ7 HRC rfl rfl rfl ?_))
  go_ret;exact ⟨rfl,HB.out⟩
 cases h5:decide (p.n.pk.w=0)
 ·clear hb;have e5:=neb_f h5;have hr:=kZ6 HN.out;obtain ⟨x0,x1,x2,x4,x5,x6,x7,x8,x20,x21⟩:=jZf HN.out;have hrp:=kZ4 hr;have hrl:=kZ2 hr;have hrc:=kZw hr;simp only [Nat.zero_add] at hrp hrl hrc;have HRP:=hD hrp;have HRL:=hD hrl;have HRC:=hD hrc;clear hr hrp hrl hrc
  go_wp2_with (first|(refine jZo HRP rfl rfl rfl ?_)|(refine jZk HRL rfl rfl rfl ?_)|(refine jZ7 HRC rfl rfl rfl ?_))
  with_reducible refine (jZh _ 0 30 true _ h1).mono ?_
  rintro e wq ⟨rfl,rfl⟩
  go_wp2_with (first|(refine jZo HRP rfl rfl rfl ?_)|(refine jZk HRL rfl rfl rfl ?_)|(refine jZ7 HRC rfl rfl rfl ?_))
  with_reducible refine (jZh _ 0 30 true _ h2).mono ?_
  rintro e wq ⟨rfl,rfl⟩
  go_wp2_with (first|(refine jZo HRP rfl rfl rfl ?_)|(refine jZk HRL rfl rfl rfl ?_)|(refine jZ7 HRC rfl rfl rfl ?_))
  with_reducible refine (jZh _ 0 2 true _ h3).mono ?_
  rintro e wq ⟨rfl,rfl⟩
  go_wp2_with (first|(refine jZo HRP rfl rfl rfl ?_)|(refine jZk HRL rfl rfl rfl ?_)|(refine jZ7 HRC rfl rfl rfl ?_))
  with_reducible refine (gZt p.n.pk true h4 _).mono ?_
  rintro e v1 ⟨rfl,hb1⟩;clear x0 x1 x2 x4 x5 x6 x7 x8 x20 x21 HRP HRL HRC;replace HX:=hbk hb1 HX;replace HN:=hbk hb1 HN;replace HV:=hD (HV.out.keep hb1);replace HR:=hD (HR.out.keep hb1);replace HB:=hD (jZa HB.out hb1);clear hb1;have hr:=kZ6 HN.out;obtain ⟨x0,x1,x2,x4,x5,x6,x7,x8,x20,x21⟩:=jZf HN.out;have hrp:=kZ4 hr;have hrl:=kZ2 hr;have hrc:=kZw hr
  simp only [Nat.zero_add] at hrp hrl hrc;have HRP:=hD hrp;have HRL:=hD hrl;have HRC:=hD hrc;clear hr hrp hrl hrc
  go_wp2_with (first|(refine jZo HRP rfl rfl rfl ?_)|(refine jZk HRL rfl rfl rfl ?_)|(refine jZ7 HRC rfl rfl rfl ?_))
  go_ret;exact ⟨rfl,HB.out⟩
 have e5:=hZo h5
 cases h6:decide (p.n.pk.h=0)
 ·clear hb;have e6:=neb_f h6;have hr:=kZ6 HN.out;obtain ⟨x0,x1,x2,x4,x5,x6,x7,x8,x20,x21⟩:=jZf HN.out;have hrp:=kZ4 hr;have hrl:=kZ2 hr;have hrc:=kZw hr;simp only [Nat.zero_add] at hrp hrl hrc;have HRP:=hD hrp;have HRL:=hD hrl;have HRC:=hD hrc;clear hr hrp hrl hrc
  go_wp2_with (first|(refine jZo HRP rfl rfl rfl ?_)|(refine jZk HRL rfl rfl rfl ?_)|(refine jZ7 HRC rfl rfl rfl ?_))
  with_reducible refine (jZh _ 0 30 true _ h1).mono ?_
  rintro e wq ⟨rfl,rfl⟩
  go_wp2_with (first|(refine jZo HRP rfl rfl rfl ?_)|(refine jZk HRL rfl rfl rfl ?_)|(refine jZ7 HRC rfl rfl rfl ?_))
  with_reducible refine (jZh _ 0 30 true _ h2).mono ?_
  rintro e wq ⟨rfl,rfl⟩
  go_wp2_with (first|(refine jZo HRP rfl rfl rfl ?_)|(refine jZk HRL rfl rfl rfl ?_)|(refine jZ7 HRC rfl rfl rfl ?_))
  with_reducible refine (jZh _ 0 2 true _ h3).mono ?_
  rintro e wq ⟨rfl,rfl⟩
  go_wp2_with (first|(refine jZo HRP rfl rfl rfl ?_)|(refine jZk HRL rfl rfl rfl ?_)|(refine jZ7 HRC rfl rfl rfl ?_))
  with_reducible refine (gZt p.n.pk true h4 _).mono ?_
  rintro e v1 ⟨rfl,hb1⟩;clear x0 x1 x2 x4 x5 x6 x7 x8 x20 x21 HRP HRL HRC;replace HX:=hbk hb1 HX;replace HN:=hbk hb1 HN;replace HV:=hD (HV.out.keep hb1);replace HR:=hD (HR.out.keep hb1);replace HB:=hD (jZa HB.out hb1);clear hb1;have hr:=kZ6 HN.out;obtain ⟨x0,x1,x2,x4,x5,x6,x7,x8,x20,x21⟩:=jZf HN.out;have hrp:=kZ4 hr;have hrl:=kZ2 hr;have hrc:=kZw hr
  simp only [Nat.zero_add] at hrp hrl hrc;have HRP:=hD hrp;have HRL:=hD hrl;have HRC:=hD hrc;clear hr hrp hrl hrc
  go_wp2_with (first|(refine jZo HRP rfl rfl rfl ?_)|(refine jZk HRL rfl rfl rfl ?_)|(refine jZ7 HRC rfl rfl rfl ?_))
  go_ret;exact ⟨rfl,HB.out⟩
 have e6:=hZo h6
 cases h7:plB p.n.pl
 ·clear hb;have hr:=kZ6 HN.out;obtain ⟨x0,x1,x2,x4,x5,x6,x7,x8,x20,x21⟩:=jZf HN.out;have hrp:=kZ4 hr;have hrl:=kZ2 hr;have hrc:=kZw hr;simp only [Nat.zero_add] at hrp hrl hrc;have HRP:=hD hrp;have HRL:=hD hrl;have HRC:=hD hrc;clear hr hrp hrl hrc
  go_wp2_with (first|(refine jZo HRP rfl rfl rfl ?_)|(refine jZk HRL rfl rfl rfl ?_)|(refine jZ7 HRC rfl rfl rfl ?_))
  with_reducible refine (jZh _ 0 30 true _ h1).mono ?_
  rintro e wq ⟨rfl,rfl⟩
  go_wp2_with (first|(refine jZo HRP rfl rfl rfl ?_)|(refine jZk HRL rfl rfl rfl ?_)|(refine jZ7 HRC rfl rfl rfl ?_))
  with_reducible refine (jZh _ 0 30 true _ h2).mono ?_
  rintro e wq ⟨rfl,rfl⟩
  go_wp2_with (first|(refine jZo HRP rfl rfl rfl ?_)|(refine jZk HRL rfl rfl rfl ?_)|(refine jZ7 HRC rfl rfl rfl ?_))
  with_reducible refine (jZh _ 0 2 true _ h3).mono ?_
  rintro e wq ⟨rfl,rfl⟩
  go_wp2_with (first|(refine jZo HRP rfl rfl rfl ?_)|(refine jZk HRL rfl rfl rfl ?_)|(refine jZ7 HRC rfl rfl rfl ?_))
  with_reducible refine (gZt p.n.pk true h4 _).mono ?_
  rintro e v1 ⟨rfl,hb1⟩;clear x0 x1 x2 x4 x5 x6 x7 x8 x20 x21 HRP HRL HRC;replace HX:=hbk hb1 HX;replace HN:=hbk hb1 HN;replace HV:=hD (HV.out.keep hb1);replace HR:=hD (HR.out.keep hb1);replace HB:=hD (jZa HB.out hb1);clear hb1;have hr:=kZ6 HN.out;obtain ⟨x0,x1,x2,x4,x5,x6,x7,x8,x20,x21⟩:=jZf HN.out;have hrp:=kZ4 hr;have hrl:=kZ2 hr;have hrc:=kZw hr
  simp only [Nat.zero_add] at hrp hrl hrc;have HRP:=hD hrp;have HRL:=hD hrl;have HRC:=hD hrc;clear hr hrp hrl hrc
  go_wp2_with (first|(refine jZo HRP rfl rfl rfl ?_)|(refine jZk HRL rfl rfl rfl ?_)|(refine jZ7 HRC rfl rfl rfl ?_))
  with_reducible refine (rZf p.n.pl false _ h7).mono ?_
  rintro e v2 ⟨rfl,hb1⟩;clear x0 x1 x2 x4 x5 x6 x7 x8 x20 x21 HRP HRL HRC;replace HX:=hbk hb1 HX;replace HN:=hbk hb1 HN;replace HV:=hD (HV.out.keep hb1);replace HR:=hD (HR.out.keep hb1);replace HB:=hD (jZa HB.out hb1);clear hb1;have hr:=kZ6 HN.out;obtain ⟨x0,x1,x2,x4,x5,x6,x7,x8,x20,x21⟩:=jZf HN.out;have hrp:=kZ4 hr;have hrl:=kZ2 hr;have hrc:=kZw hr
  simp only [Nat.zero_add] at hrp hrl hrc;have HRP:=hD hrp;have HRL:=hD hrl;have HRC:=hD hrc;clear hr hrp hrl hrc
  go_wp2_with (first|(refine jZo HRP rfl rfl rfl ?_)|(refine jZk HRL rfl rfl rfl ?_)|(refine jZ7 HRC rfl rfl rfl ?_))
  go_ret;exact ⟨rfl,HB.out⟩
 cases h8:decide (p.n.ce.cw=0)
 ·clear hb;have e8:=neb_f h8;have hr:=kZ6 HN.out;obtain ⟨x0,x1,x2,x4,x5,x6,x7,x8,x20,x21⟩:=jZf HN.out;have hrp:=kZ4 hr;have hrl:=kZ2 hr;have hrc:=kZw hr;simp only [Nat.zero_add] at hrp hrl hrc;have HRP:=hD hrp;have HRL:=hD hrl;have HRC:=hD hrc;clear hr hrp hrl hrc
  go_wp2_with (first|(refine jZo HRP rfl rfl rfl ?_)|(refine jZk HRL rfl rfl rfl ?_)|(refine jZ7 HRC rfl rfl rfl ?_))
  with_reducible refine (jZh _ 0 30 true _ h1).mono ?_
  rintro e wq ⟨rfl,rfl⟩
  go_wp2_with (first|(refine jZo HRP rfl rfl rfl ?_)|(refine jZk HRL rfl rfl rfl ?_)|(refine jZ7 HRC rfl rfl rfl ?_))
  with_reducible refine (jZh _ 0 30 true _ h2).mono ?_
  rintro e wq ⟨rfl,rfl⟩
  go_wp2_with (first|(refine jZo HRP rfl rfl rfl ?_)|(refine jZk HRL rfl rfl rfl ?_)|(refine jZ7 HRC rfl rfl rfl ?_))
  with_reducible refine (jZh _ 0 2 true _ h3).mono ?_
  rintro e wq ⟨rfl,rfl⟩
  go_wp2_with (first|(refine jZo HRP rfl rfl rfl ?_)|(refine jZk HRL rfl rfl rfl ?_)|(refine jZ7 HRC rfl rfl rfl ?_))
  with_reducible refine (gZt p.n.pk true h4 _).mono ?_
  rintro e v1 ⟨rfl,hb1⟩;clear x0 x1 x2 x4 x5 x6 x7 x8 x20 x21 HRP HRL HRC;replace HX:=hbk hb1 HX;replace HN:=hbk hb1 HN;replace HV:=hD (HV.out.keep hb1);replace HR:=hD (HR.out.keep hb1);replace HB:=hD (jZa HB.out hb1);clear hb1;have hr:=kZ6 HN.out;obtain ⟨x0,x1,x2,x4,x5,x6,x7,x8,x20,x21⟩:=jZf HN.out;have hrp:=kZ4 hr;have hrl:=kZ2 hr;have hrc:=kZw hr
  simp only [Nat.zero_add] at hrp hrl hrc;have HRP:=hD hrp;have HRL:=hD hrl;have HRC:=hD hrc;clear hr hrp hrl hrc
  go_wp2_with (first|(refine jZo HRP rfl rfl rfl ?_)|(refine jZk HRL rfl rfl rfl ?_)|(refine jZ7 HRC rfl rfl rfl ?_))
  with_reducible refine (rZf p.n.pl true _ h7).mono ?_
  rintro e v2 ⟨rfl,hb1⟩;clear x0 x1 x2 x4 x5 x6 x7 x8 x20 x21 HRP HRL HRC;replace HX:=hbk hb1 HX;replace HN:=hbk hb1 HN;replace HV:=hD (HV.out.keep hb1);replace HR:=hD (HR.out.keep hb1);replace HB:=hD (jZa HB.out hb1);clear hb1;have hr:=kZ6 HN.out;obtain ⟨x0,x1,x2,x4,x5,x6,x7,x8,x20,x21⟩:=jZf HN.out;have hrp:=kZ4 hr;have hrl:=kZ2 hr;have hrc:=kZw hr
  simp only [Nat.zero_add] at hrp hrl hrc;have HRP:=hD hrp;have HRL:=hD hrl;have HRC:=hD hrc;clear hr hrp hrl hrc
  go_wp2_with (first|(refine jZo HRP rfl rfl rfl ?_)|(refine jZk HRL rfl rfl rfl ?_)|(refine jZ7 HRC rfl rfl rfl ?_))
  go_ret;exact ⟨rfl,HB.out⟩
 have e8:=hZo h8
 have h9:decide (p.n.ce.ch=0)=false:=by have:=hb;simp only [spB,h1,h2,h3,h4,h5,h6,h7,h8,Bool.true_and] at this;exact this
 clear hb;have e9:=neb_f h9;have hr:=kZ6 HN.out;obtain ⟨x0,x1,x2,x4,x5,x6,x7,x8,x20,x21⟩:=jZf HN.out;have hrp:=kZ4 hr;have hrl:=kZ2 hr;have hrc:=kZw hr;simp only [Nat.zero_add] at hrp hrl hrc;have HRP:=hD hrp;have HRL:=hD hrl;have HRC:=hD hrc;clear hr hrp hrl hrc
 go_wp2_with (first|(refine jZo HRP rfl rfl rfl ?_)|(refine jZk HRL rfl rfl rfl ?_)|(refine jZ7 HRC rfl rfl rfl ?_))
 with_reducible refine (jZh _ 0 30 true _ h1).mono ?_
 rintro e wq ⟨rfl,rfl⟩
 go_wp2_with (first|(refine jZo HRP rfl rfl rfl ?_)|(refine jZk HRL rfl rfl rfl ?_)|(refine jZ7 HRC rfl rfl rfl ?_))
 with_reducible refine (jZh _ 0 30 true _ h2).mono ?_
 rintro e wq ⟨rfl,rfl⟩
 go_wp2_with (first|(refine jZo HRP rfl rfl rfl ?_)|(refine jZk HRL rfl rfl rfl ?_)|(refine jZ7 HRC rfl rfl rfl ?_))
 with_reducible refine (jZh _ 0 2 true _ h3).mono ?_
 rintro e wq ⟨rfl,rfl⟩
 go_wp2_with (first|(refine jZo HRP rfl rfl rfl ?_)|(refine jZk HRL rfl rfl rfl ?_)|(refine jZ7 HRC rfl rfl rfl ?_))
 with_reducible refine (gZt p.n.pk true h4 _).mono ?_
 rintro e v1 ⟨rfl,hb1⟩;clear x0 x1 x2 x4 x5 x6 x7 x8 x20 x21 HRP HRL HRC;replace HX:=hbk hb1 HX;replace HN:=hbk hb1 HN;replace HV:=hD (HV.out.keep hb1);replace HR:=hD (HR.out.keep hb1);replace HB:=hD (jZa HB.out hb1);clear hb1;have hr:=kZ6 HN.out;obtain ⟨x0,x1,x2,x4,x5,x6,x7,x8,x20,x21⟩:=jZf HN.out;have hrp:=kZ4 hr;have hrl:=kZ2 hr;have hrc:=kZw hr
 simp only [Nat.zero_add] at hrp hrl hrc;have HRP:=hD hrp;have HRL:=hD hrl;have HRC:=hD hrc;clear hr hrp hrl hrc
 go_wp2_with (first|(refine jZo HRP rfl rfl rfl ?_)|(refine jZk HRL rfl rfl rfl ?_)|(refine jZ7 HRC rfl rfl rfl ?_))
 with_reducible refine (rZf p.n.pl true _ h7).mono ?_
 rintro e v2 ⟨rfl,hb1⟩;clear x0 x1 x2 x4 x5 x6 x7 x8 x20 x21 HRP HRL HRC;replace HX:=hbk hb1 HX;replace HN:=hbk hb1 HN;replace HV:=hD (HV.out.keep hb1);replace HR:=hD (HR.out.keep hb1);replace HB:=hD (jZa HB.out hb1);clear hb1;have hr:=kZ6 HN.out;obtain ⟨x0,x1,x2,x4,x5,x6,x7,x8,x20,x21⟩:=jZf HN.out;have hrp:=kZ4 hr;have hrl:=kZ2 hr;have hrc:=kZw hr
 simp only [Nat.zero_add] at hrp hrl hrc;have HRP:=hD hrp;have HRL:=hD hrl;have HRC:=hD hrc;clear hr hrp hrl hrc
 go_wp2_with (first|(refine jZo HRP rfl rfl rfl ?_)|(refine jZk HRL rfl rfl rfl ?_)|(refine jZ7 HRC rfl rfl rfl ?_))
 go_ret;exact ⟨rfl,HB.out⟩
theorem cZv (A:Option Addr) (c:Nat) (R:List Nr) (i:Nat) (p:Nr) (b:Bool) (w:World) (h:NrV w A R) (hr:RdR w R) (hp:R[i]?=some p) (hL:R.length≤1048576) (hm:∀ p∈R,p.n.cs.length≤1048576∧p.n.rs.length≤1048576) (h0:spB p.n=true) (hb:(ownB p.n&&(upB i p.n&&clB (R.map Nr.n) i p.n))=b) :
  Calls Tryz.prog 101 #[.agg #[.slice A R.length c],.int .i64 i] w fun e w'=>e=.returned (.bool b)∧Below w.heap.size w w':=by
 have hi:i<R.length:=(List.getElem?_eq_some_iff.1 hp).1
 have hii:(i:Int)<(R.length:Int):=by omega
 have hmp:=hm p (List.mem_of_getElem? hp);obtain ⟨mp1,mp2⟩:=hmp;obtain ⟨bl,off,rfl,hbl,hc⟩:=h.cells (by omega);have hB0:Below w.heap.size w (w.alloc (.cells #[.slice (some ⟨bl,off,none⟩) R.length c] 25 (0,0))):=jZd (Below.refl _ _);have HX:=hD (newS w (.cells #[.slice (some ⟨bl,off,none⟩) R.length c] 25 (0,0)));have HLR:=hD (pZi (hc i p hp) (hB0.block bl hbl));have HV:=hD (h.keep hB0)
 have HR:=hD (hr.keep hB0);have HB:=hD hB0;have HM:=hD hm;have HG:=hD hp;clear hc h hr hm hp hB0
 go_enter Tryz.func101,Tryz.ntmps101
 go_upto_region 2 with (first|(refine ldN _ p bl (off+i*34) rfl rfl rfl HLR.out ?_)|(refine stN (.tmp 5) (.tmp 11) p (w.heap.size+1) 0 rfl rfl rfl rfl (uZx _ _ _) (by show (0+34:Nat)≤34;omega) ?_))
 refine kZf (fun W=>W.heap[w.heap.size]?=some (.cells #[.slice (some ⟨bl,off,none⟩) R.length c] 25 (0,0))∧W.heap[w.heap.size+1]?=some (.cells (jZj p).toArray 43 (0,0))∧NrV W (some ⟨bl,off,none⟩) R∧RdR W R∧Below w.heap.size w W) ?hw (fun W h0=>?_)
 case hw =>
  have hbb:Below (w.alloc (.cells #[.slice (some ⟨bl,off,none⟩) R.length c] 25 (0,0))).heap.size (w.alloc (.cells #[.slice (some ⟨bl,off,none⟩) R.length c] 25 (0,0))) (((w.alloc (.cells #[.slice (some ⟨bl,off,none⟩) R.length c] 25 (0,0))).alloc (.cells #[.int .i64 0,.int .i64 0,.int .i64 0,.bool false,.int .i64 0,.slice none 0 0,.slice none 0 0,.int .i64 0,.int .i64 0,.int .i64 0,.bool false,.bool false,.bool false,.int .i64 0,.int .i64 0,.int .i64 0,.int .i64 0,.int .i64 0,.int .i64 0,.int .i64 0,.int .i64 0,.int .i64 0,.int .i64 0,.int .i64 0,.int .i64 0,.int .i64 0,.int .i64 0,.int .i64 0,.int .i64 0,.int .i64 0,.int .i64 0,.int .i64 0,.int .i64 0,.int .i64 0] 43)).setCells (w.heap.size+1) 0 (jZj p)):=jZi (by simp) _ _ _ (jZd (Below.refl _ _))
  exact ⟨(hbb.block _ (ltS HX.out)).trans HX.out,by rw [jZ4 (jZj p) 0 _ _ (uZx w _ _),pZ3 (by rfl)],HV.out.keep hbb,HR.out.keep hbb,jZa HB.out hbb⟩
 clear HX HLR HV HR HB;obtain ⟨hx,hn,hv,hr,hb0⟩:=h0;have HX:=hD hx;have HN:=hD hn;have HV:=hD hv;have HR:=hD hr;have HB:=hD hb0;clear hx hn hv hr hb0;simp only [spB,Bool.and_eq_true] at h0;obtain ⟨h1,h2,h3,h4,h5,h6,h7,h8,h9⟩:=h0;have e5:=hZo h5;have e6:=hZo h6;have e8:=hZo h8;have e9:=hZo h9;have HBB:=hD hb;clear hb;have hr:=kZ6 HN.out
 obtain ⟨x0,x1,x2,x4,x5,x6,x7,x8,x20,x21⟩:=jZf HN.out;have hrp:=kZ4 hr;have hrl:=kZ2 hr;have hrc:=kZw hr;simp only [Nat.zero_add] at hrp hrl hrc;have HRP:=hD hrp;have HRL:=hD hrl;have HRC:=hD hrc;clear hr hrp hrl hrc
 go_wp2_with (first|(refine jZo HRP rfl rfl rfl ?_)|(refine jZk HRL rfl rfl rfl ?_)|(refine jZ7 HRC rfl rfl rfl ?_))
 with_reducible refine (jZh _ 0 30 true _ h1).mono ?_
 rintro e wq ⟨rfl,rfl⟩
 go_wp2_with (first|(refine jZo HRP rfl rfl rfl ?_)|(refine jZk HRL rfl rfl rfl ?_)|(refine jZ7 HRC rfl rfl rfl ?_))
 with_reducible refine (jZh _ 0 30 true _ h2).mono ?_
 rintro e wq ⟨rfl,rfl⟩
 go_wp2_with (first|(refine jZo HRP rfl rfl rfl ?_)|(refine jZk HRL rfl rfl rfl ?_)|(refine jZ7 HRC rfl rfl rfl ?_))
 with_reducible refine (jZh _ 0 2 true _ h3).mono ?_
 rintro e wq ⟨rfl,rfl⟩
 go_wp2_with (first|(refine jZo HRP rfl rfl rfl ?_)|(refine jZk HRL rfl rfl rfl ?_)|(refine jZ7 HRC rfl rfl rfl ?_))
 with_reducible refine (gZt p.n.pk true h4 _).mono ?_
 rintro e v1 ⟨rfl,hb1⟩;clear x0 x1 x2 x4 x5 x6 x7 x8 x20 x21 HRP HRL HRC;replace HX:=hbk hb1 HX;replace HN:=hbk hb1 HN;replace HV:=hD (HV.out.keep hb1);replace HR:=hD (HR.out.keep hb1);replace HB:=hD (jZa HB.out hb1);clear hb1;have hr:=kZ6 HN.out;obtain ⟨x0,x1,x2,x4,x5,x6,x7,x8,x20,x21⟩:=jZf HN.out;have hrp:=kZ4 hr;have hrl:=kZ2 hr;have hrc:=kZw hr
 simp only [Nat.zero_add] at hrp hrl hrc;have HRP:=hD hrp;have HRL:=hD hrl;have HRC:=hD hrc;clear hr hrp hrl hrc
 go_wp2_with (first|(refine jZo HRP rfl rfl rfl ?_)|(refine jZk HRL rfl rfl rfl ?_)|(refine jZ7 HRC rfl rfl rfl ?_))
 with_reducible refine (rZf p.n.pl true _ h7).mono ?_
 rintro e v2 ⟨rfl,hb1⟩;clear x0 x1 x2 x4 x5 x6 x7 x8 x20 x21 HRP HRL HRC;replace HX:=hbk hb1 HX;replace HN:=hbk hb1 HN;replace HV:=hD (HV.out.keep hb1);replace HR:=hD (HR.out.keep hb1);replace HB:=hD (jZa HB.out hb1);clear hb1;have hr:=kZ6 HN.out;obtain ⟨x0,x1,x2,x4,x5,x6,x7,x8,x20,x21⟩:=jZf HN.out;have hrp:=kZ4 hr;have hrl:=kZ2 hr;have hrc:=kZw hr
 simp only [Nat.zero_add] at hrp hrl hrc;have HRP:=hD hrp;have HRL:=hD hrl;have HRC:=hD hrc;clear hr hrp hrl hrc;clear h1 h2 h3 h4 h5 h6 h7 h8 h9;unfold ownB at HBB
 go_upto_region 4 with ((first|(refine jZo HRP rfl rfl rfl ?_)|(refine jZk HRL rfl rfl rfl ?_)|(refine jZ7 HRC rfl rfl rfl ?_)))
 by_cases hk:p.n.ki=1
 ·rw [if_pos hk] at HBB;rw [hk] at x4;have HK:=hD hk;clear hk
  cases g1:kZd p.n.cs
  ·obtain rfl:false=b:=by rw [<- HBB.out,g1];rfl
   have HPC:=hD (HR.out p (List.mem_of_getElem? HG.out))
   go_wp2_with fail
   with_reducible refine (qZv p.ca p.cc p.n.cs false _ HPC.out.c mp1 g1).mono ?_
   rintro e u1 ⟨rfl,hb1⟩;clear x0 x1 x2 x4 x5 x6 x7 x8 x20 x21 HRP HRL HRC;replace HB:=hD (jZa HB.out hb1);clear hb1;go_wp2;go_ret;exact ⟨rfl,HB.out⟩
  ·cases g2:kZd p.n.rs
   ·obtain rfl:false=b:=by rw [<- HBB.out,g1,g2];rfl
    have HPC:=hD (HR.out p (List.mem_of_getElem? HG.out))
    go_wp2_with fail
    with_reducible refine (qZv p.ca p.cc p.n.cs true _ HPC.out.c mp1 g1).mono ?_
    rintro e u1 ⟨rfl,hb1⟩;clear x0 x1 x2 x4 x5 x6 x7 x8 x20 x21 HRP HRL HRC;replace HX:=hbk hb1 HX;replace HN:=hbk hb1 HN;replace HV:=hD (HV.out.keep hb1);replace HR:=hD (HR.out.keep hb1);replace HB:=hD (jZa HB.out hb1);clear hb1;have hr:=kZ6 HN.out;obtain ⟨x0,x1,x2,x4,x5,x6,x7,x8,x20,x21⟩:=jZf HN.out;have hrp:=kZ4 hr;have hrl:=kZ2 hr;have hrc:=kZw hr
    simp only [Nat.zero_add] at hrp hrl hrc;have HRP:=hD hrp;have HRL:=hD hrl;have HRC:=hD hrc;clear hr hrp hrl hrc;rw [HK.out] at x4;have HPC:=hD (HR.out p (List.mem_of_getElem? HG.out))
    go_wp2_with fail
    with_reducible refine (qZv p.ra p.rc p.n.rs false _ HPC.out.r mp2 g2).mono ?_
    rintro e u2 ⟨rfl,hb1⟩;clear x0 x1 x2 x4 x5 x6 x7 x8 x20 x21 HRP HRL HRC;replace HX:=hbk hb1 HX;replace HN:=hbk hb1 HN;replace HV:=hD (HV.out.keep hb1);replace HR:=hD (HR.out.keep hb1);replace HB:=hD (jZa HB.out hb1);clear hb1;have hr:=kZ6 HN.out;obtain ⟨x0,x1,x2,x4,x5,x6,x7,x8,x20,x21⟩:=jZf HN.out;have hrp:=kZ4 hr;have hrl:=kZ2 hr;have hrc:=kZw hr
    simp only [Nat.zero_add] at hrp hrl hrc;have HRP:=hD hrp;have HRL:=hD hrl;have HRC:=hD hrc;clear hr hrp hrl hrc;rw [HK.out] at x4;go_wp2;go_ret;exact ⟨rfl,HB.out⟩
   ·have hb2:(upB i p.n&&clB (R.map Nr.n) i p.n)=b:=by rw [<- HBB.out,g1,g2];rfl
    have HB2:=hD hb2;clear hb2 HBB;have HPC:=hD (HR.out p (List.mem_of_getElem? HG.out))
    go_wp2_with fail
    with_reducible refine (qZv p.ca p.cc p.n.cs true _ HPC.out.c mp1 g1).mono ?_
    rintro e u1 ⟨rfl,hb1⟩;clear x0 x1 x2 x4 x5 x6 x7 x8 x20 x21 HRP HRL HRC;replace HX:=hbk hb1 HX;replace HN:=hbk hb1 HN;replace HV:=hD (HV.out.keep hb1);replace HR:=hD (HR.out.keep hb1);replace HB:=hD (jZa HB.out hb1);clear hb1;have hr:=kZ6 HN.out;obtain ⟨x0,x1,x2,x4,x5,x6,x7,x8,x20,x21⟩:=jZf HN.out;have hrp:=kZ4 hr;have hrl:=kZ2 hr;have hrc:=kZw hr
    simp only [Nat.zero_add] at hrp hrl hrc;have HRP:=hD hrp;have HRL:=hD hrl;have HRC:=hD hrc;clear hr hrp hrl hrc;rw [HK.out] at x4;have HPC:=hD (HR.out p (List.mem_of_getElem? HG.out))
    go_wp2_with fail
    with_reducible refine (qZv p.ra p.rc p.n.rs true _ HPC.out.r mp2 g2).mono ?_
    rintro e u2 ⟨rfl,hb1⟩;clear x0 x1 x2 x4 x5 x6 x7 x8 x20 x21 HRP HRL HRC;replace HX:=hbk hb1 HX;replace HN:=hbk hb1 HN;replace HV:=hD (HV.out.keep hb1);replace HR:=hD (HR.out.keep hb1);replace HB:=hD (jZa HB.out hb1);clear hb1;have hr:=kZ6 HN.out;obtain ⟨x0,x1,x2,x4,x5,x6,x7,x8,x20,x21⟩:=jZf HN.out;have hrp:=kZ4 hr;have hrl:=kZ2 hr;have hrc:=kZw hr
    simp only [Nat.zero_add] at hrp hrl hrc;have HRP:=hD hrp;have HRL:=hD hrl;have HRC:=hD hrc;clear hr hrp hrl hrc;rw [HK.out] at x4
    go_upto_region 6 with (fail)
    by_cases hz:i=0
    ·subst hz
     have hbz:(p.n.pa == -1)=b:=by rw [<- HB2.out];simp only [upB,clB,if_true,Bool.and_true];rfl
     have HBZ:=hD hbz;clear hbz HB2;go_wp2;go_ret;exact ⟨jZ8 HBZ.out,HB.out⟩
    ·have z0:((i:Int) == 0)=false:=by rw [beq_eq_false_iff_ne];omega
     have z1:decide ((i:Int)=0)=false:=decide_eq_false (by omega)
     cases hu:upB i p.n
     ·obtain rfl:false=b:=by rw [<- HB2.out,hu];rfl
      have hu2:rng p.n.pa 0 ((i:Int)-1)=false:=by have:=hu;unfold upB at this;rwa [if_neg hz] at this
      go_wp2_with fail
      with_reducible refine (jZh p.n.pa 0 ((i:Int)-1) false _ hu2).mono ?_
      rintro e wq ⟨rfl,rfl⟩;go_wp2;go_ret;exact ⟨rfl,HB.out⟩
     ·have hu2:rng p.n.pa 0 ((i:Int)-1)=true:=by have:=hu;unfold upB at this;rwa [if_neg hz] at this
      have hb3:clB (R.map Nr.n) i p.n=b:=by rw [<- HB2.out,hu];rfl
      obtain ⟨m,hpm⟩:=Int.eq_ofNat_of_zero_le (pZa.1 hu2).1
      have hmi:m<i:=by have:=(pZa.1 hu2).2;omega
      have hml:m<R.length:=by omega
      have hmu:R[m]?=some R[m]:=List.getElem?_eq_getElem hml;unfold clB at hb3;rw [if_neg hz,hpm] at hb3;simp only [Int.toNat_natCast] at hb3;rw [List.getElem?_map,hmu] at hb3;simp only [Option.map_some] at hb3;have hmm:=HM.out _ (List.mem_of_getElem? hmu);generalize R[m]=u at *;obtain ⟨mu1,mu2⟩:=hmm;obtain ⟨bl2,off2,e9,hbl2,hcu⟩:=HV.out.cells (by omega)
      cases e9
      have HU:=hD (hcu m u hmu);have HB3:=hD hb3
      have hmr:(m:Int)<(R.length:Int):=by omega
      rw [hpm] at x0 hu2;have hx0:=jZc HX.out 0;clear hcu hmu hb3 HB2 hu hpm
      go_wp2_with fail
      with_reducible refine (jZh (m:Int) 0 ((i:Int)-1) true _ hu2).mono ?_
      rintro e wq ⟨rfl,rfl⟩;have hsz:w.heap.size+1<u2.heap.size:=ltS HN.out
      go_upto_region 11 with (first|(refine ldN _ u bl (off+m*34) rfl rfl rfl HU.out ?_)|(refine stN (.tmp 6) (.tmp 112) u u2.heap.size 0 rfl rfl rfl rfl (newS _ _) (by show (0+34:Nat)≤34;omega) ?_))
      refine kZf (fun W=>W.heap[u2.heap.size]?=some (.cells (jZj u).toArray 43 (0,0))∧Below u2.heap.size u2 W) ⟨eZw u rfl rfl,jZi (Nat.le_refl _) _ _ _ (jZd (Below.refl _ _))⟩ (fun W9 h9=>?_);obtain ⟨hn9,hb9⟩:=h9;have HN9:=hD hn9;clear x0 x1 x2 x4 x5 x6 x7 x8 x20 x21 HRP HRL HRC hx0;replace HX:=hbk hb9 HX;replace HN:=hbk hb9 HN;replace HB:=hD (jZa HB.out hb9)
      clear hb9;have y4:W9.cell? ⟨u2.heap.size,4,none⟩=some (.int .i64 u.n.ki):=jZc HN9.out 4;have y5:W9.cell? ⟨u2.heap.size,5,none⟩=some (.slice u.ca u.n.cs.length u.cc):=jZc HN9.out 5;have y6:W9.cell? ⟨u2.heap.size,6,none⟩=some (.slice u.ra u.n.rs.length u.rc):=jZc HN9.out 6;clear hn9
      by_cases hq:u.n.ki=1
      ·rw [hq] at y4
       have hcb:rZa u.n.cs.length u.n.rs.length p.n.ce=b:=by rw [<- HB3.out];simp [hq]
       have HCB:=hD hcb;have hrc:=kZw (kZ6 HN.out);simp only [Nat.zero_add] at hrc;have HRC:=hD hrc;clear hq hcb HB3 hrc
       go_wp2_with (refine jZ7 HRC rfl rfl rfl ?_)
       with_reducible refine (vZs p.n.ce u.n.cs.length u.n.rs.length 0 u.cc u.rc 0 u.ca u.ra none b _ mu1 mu2 HCB.out).mono ?_
       rintro e u9 ⟨rfl,hbu⟩;clear y4 y5 y6 HRC;replace HB:=hD (jZa HB.out hbu);clear hbu;go_wp2;go_ret;exact ⟨rfl,HB.out⟩
      ·obtain rfl:true=b:=by rw [<- HB3.out];simp [hq]
       have f9:(u.n.ki == 1)=false:=by rw [beq_eq_false_iff_ne];exact hq
       have f8:(u.n.ki != 1)=true:=by simp [bne,f9]
       have f7:decide (u.n.ki=1)=false:=decide_eq_false hq;have HQ:=hD hq;clear hq;go_wp2;go_ret;exact ⟨rfl,HB.out⟩
 ·rw [if_neg hk] at HBB
  have f1:(p.n.ki == 1)=false:=by rw [beq_eq_false_iff_ne];exact hk
  have f2:(p.n.ki != 1)=true:=by simp [bne,f1]
  have f1':decide (p.n.ki=1)=false:=decide_eq_false hk;have HK:=hD hk;clear hk
  by_cases g1:p.n.cs.length=0
  ·rw [g1] at x5
   by_cases g2:p.n.rs.length=0
   ·rw [g2] at x6
    have hb2:(upB i p.n&&clB (R.map Nr.n) i p.n)=b:=by rw [<- HBB.out,decide_eq_true g1,decide_eq_true g2];rfl
    have HB2:=hD hb2;clear hb2 HBB g1 g2
    go_upto_region 6 with (fail)
    by_cases hz:i=0
    ·subst hz
     have hbz:(p.n.pa == -1)=b:=by rw [<- HB2.out];simp only [upB,clB,if_true,Bool.and_true];rfl
     have HBZ:=hD hbz;clear hbz HB2;go_wp2;go_ret;exact ⟨jZ8 HBZ.out,HB.out⟩
    ·have z0:((i:Int) == 0)=false:=by rw [beq_eq_false_iff_ne];omega
     have z1:decide ((i:Int)=0)=false:=decide_eq_false (by omega)
     cases hu:upB i p.n
     ·obtain rfl:false=b:=by rw [<- HB2.out,hu];rfl
      have hu2:rng p.n.pa 0 ((i:Int)-1)=false:=by have:=hu;unfold upB at this;rwa [if_neg hz] at this
      go_wp2_with fail
      with_reducible refine (jZh p.n.pa 0 ((i:Int)-1) false _ hu2).mono ?_
      rintro e wq ⟨rfl,rfl⟩;go_wp2;go_ret;exact ⟨rfl,HB.out⟩
     ·have hu2:rng p.n.pa 0 ((i:Int)-1)=true:=by have:=hu;unfold upB at this;rwa [if_neg hz] at this
      have hb3:clB (R.map Nr.n) i p.n=b:=by rw [<- HB2.out,hu];rfl
      obtain ⟨m,hpm⟩:=Int.eq_ofNat_of_zero_le (pZa.1 hu2).1
      have hmi:m<i:=by have:=(pZa.1 hu2).2;omega
      have hml:m<R.length:=by omega
      have hmu:R[m]?=some R[m]:=List.getElem?_eq_getElem hml;unfold clB at hb3;rw [if_neg hz,hpm] at hb3;simp only [Int.toNat_natCast] at hb3;rw [List.getElem?_map,hmu] at hb3;simp only [Option.map_some] at hb3;have hmm:=HM.out _ (List.mem_of_getElem? hmu);generalize R[m]=u at *;obtain ⟨mu1,mu2⟩:=hmm;obtain ⟨bl2,off2,e9,hbl2,hcu⟩:=HV.out.cells (by omega)
      cases e9
      have HU:=hD (hcu m u hmu);have HB3:=hD hb3
      have hmr:(m:Int)<(R.length:Int):=by omega
      rw [hpm] at x0 hu2;have hx0:=jZc HX.out 0;clear hcu hmu hb3 HB2 hu hpm
      go_wp2_with fail
      with_reducible refine (jZh (m:Int) 0 ((i:Int)-1) true _ hu2).mono ?_
      rintro e wq ⟨rfl,rfl⟩;have hsz:w.heap.size+1<v2.heap.size:=ltS HN.out
      go_upto_region 11 with (first|(refine ldN _ u bl (off+m*34) rfl rfl rfl HU.out ?_)|(refine stN (.tmp 6) (.tmp 112) u v2.heap.size 0 rfl rfl rfl rfl (newS _ _) (by show (0+34:Nat)≤34;omega) ?_))
      refine kZf (fun W=>W.heap[v2.heap.size]?=some (.cells (jZj u).toArray 43 (0,0))∧Below v2.heap.size v2 W) ⟨eZw u rfl rfl,jZi (Nat.le_refl _) _ _ _ (jZd (Below.refl _ _))⟩ (fun W9 h9=>?_);obtain ⟨hn9,hb9⟩:=h9;have HN9:=hD hn9;clear x0 x1 x2 x4 x5 x6 x7 x8 x20 x21 HRP HRL HRC hx0;replace HX:=hbk hb9 HX;replace HN:=hbk hb9 HN;replace HB:=hD (jZa HB.out hb9)
      clear hb9;have y4:W9.cell? ⟨v2.heap.size,4,none⟩=some (.int .i64 u.n.ki):=jZc HN9.out 4;have y5:W9.cell? ⟨v2.heap.size,5,none⟩=some (.slice u.ca u.n.cs.length u.cc):=jZc HN9.out 5;have y6:W9.cell? ⟨v2.heap.size,6,none⟩=some (.slice u.ra u.n.rs.length u.rc):=jZc HN9.out 6;clear hn9
      by_cases hq:u.n.ki=1
      ·rw [hq] at y4
       have hcb:rZa u.n.cs.length u.n.rs.length p.n.ce=b:=by rw [<- HB3.out];simp [hq]
       have HCB:=hD hcb;have hrc:=kZw (kZ6 HN.out);simp only [Nat.zero_add] at hrc;have HRC:=hD hrc;clear hq hcb HB3 hrc
       go_wp2_with (refine jZ7 HRC rfl rfl rfl ?_)
       with_reducible refine (vZs p.n.ce u.n.cs.length u.n.rs.length 0 u.cc u.rc 0 u.ca u.ra none b _ mu1 mu2 HCB.out).mono ?_
       rintro e u9 ⟨rfl,hbu⟩;clear y4 y5 y6 HRC;replace HB:=hD (jZa HB.out hbu);clear hbu;go_wp2;go_ret;exact ⟨rfl,HB.out⟩
      ·obtain rfl:true=b:=by rw [<- HB3.out];simp [hq]
       have f9:(u.n.ki == 1)=false:=by rw [beq_eq_false_iff_ne];exact hq
       have f8:(u.n.ki != 1)=true:=by simp [bne,f9]
       have f7:decide (u.n.ki=1)=false:=decide_eq_false hq;have HQ:=hD hq;clear hq;go_wp2;go_ret;exact ⟨rfl,HB.out⟩
   ·have k2:decide ((0:Int)<((p.n.rs.length:Nat):Int))=true:=decide_eq_true (by omega)
    have k2n:0<p.n.rs.length:=by omega
    obtain rfl:false=b:=by rw [<- HBB.out,decide_eq_false g2,Bool.and_false];rfl
    clear g1 g2;go_wp2;go_ret;exact ⟨rfl,HB.out⟩
  ·have k1:decide ((0:Int)<((p.n.cs.length:Nat):Int))=true:=decide_eq_true (by omega)
   have k1n:0<p.n.cs.length:=by omega
   obtain rfl:false=b:=by rw [<- HBB.out,decide_eq_false g1,Bool.false_and];rfl
   clear g1;go_wp2;go_ret;exact ⟨rfl,HB.out⟩
theorem fZ7 (A:Option Addr) (c:Nat) (R:List Nr) (b:Bool) (w:World) (h:NrV w A R) (hr:RdR w R) (hL:R.length≤1048576) (hm:∀ p∈R,p.n.cs.length≤1048576∧p.n.rs.length≤1048576) (hb:sZj (R.map Nr.n)=b) :
  Calls Tryz.prog 56 #[.agg #[.slice A R.length c]] w fun e w'=>e=.returned (.bool b)∧Below w.heap.size w w':=by
 have hB0:Below w.heap.size w (w.alloc (.cells #[.slice A R.length c] 25 (0,0))):=jZd (Below.refl _ _);have HX:=hD (newS w (.cells #[.slice A R.length c] 25 (0,0)));have HB:=hD hB0;have HV:=hD (h.keep hB0);have HR:=hD (hr.keep hB0);have HM:=hD hm;have HBB:=hD hb;clear hB0 h hr hm hb
 go_enter Tryz.func56,Tryz.ntmps56
 go_wp2_with fail
 go_loopw [3] (fun i wr=>∃ k:Nat,k≤R.length∧i=.int .i64 k∧(List.range k).all (nokB (R.map Nr.n))=true∧wr.heap[w.heap.size]?=some (.cells #[.slice A R.length c] 25 (0,0))∧NrV wr A R∧RdR wr R∧Below w.heap.size w wr) (fun i _=>R.length-(intOf i).toNat)
 case atStart=>exact ⟨0,by omega,rfl,rfl,HX.out,HV.out,HR.out,HB.out⟩
 case round =>
  obtain ⟨k,hk,rfl,hall,hx,hv,hr,hB⟩:=hrel;clear HX HV HR HB;have hx0:=jZc hx 0;have lx:=ltS hx;have HX:=hD hx;have HV:=hD hv;have HR:=hD hr;have HB:=hD hB;have HALL:=hD hall;clear hx hv hr hB hall
  by_cases hlt:k<R.length
  ·have hd:decide ((k:Int)<(R.length:Int))=true:=by simpa using hlt
   have hget:R[k]?=some R[k]:=List.getElem?_eq_getElem hlt;generalize R[k]=p at *;have hnb:nokB (R.map Nr.n) k=(ndB p.n&&(upB k p.n&&clB (R.map Nr.n) k p.n)):=eZ0 (by rw [List.getElem?_map,hget];rfl);rw [nd_sp] at hnb;have HNB:=hD hnb;have HG:=hD hget;clear hnb hget
   have hcv:∀ cb,nokB (R.map Nr.n) k=cb→Calls Tryz.prog 101 #[.agg #[.slice A R.length c],.int .i64 k] wr fun e w'=>e=.returned (.bool cb)∧Below wr.heap.size wr w':=by
    intro cb hcb;rw [HNB.out] at hcb
    cases h0:spB p.n
    ·obtain rfl:false=cb:=by rw [<- hcb,h0];rfl
     exact eZp A c R k p _ HV.out HR.out HG.out hL HM.out h0
    ·exact cZv A c R k p cb _ HV.out HR.out HG.out hL HM.out h0 (by rw [<- hcb,h0,Bool.true_and])
   cases h1:nokB (R.map Nr.n) k
   ·have HC:=hD (hcv false h1);clear hcv HNB
    go_wp2_with fail
    with_reducible refine (HC.out).mono ?_
    rintro e w1 ⟨rfl,hb⟩;clear hx0 HC;replace HB:=hD (jZa HB.out hb);clear hb;have HH1:=hD h1;clear h1;go_wp2;go_ret;refine ⟨jZ8 ?_,HB.out⟩;rw [<- HBB.out];unfold sZj;rw [List.length_map,rZk (k:=k) (p:=k) (by rw [List.getElem?_range (by omega)]) HH1.out,Bool.and_false]
   ·have HC:=hD (hcv true h1);clear hcv HNB
    go_wp2_with fail
    with_reducible refine (HC.out).mono ?_
    rintro e w1 ⟨rfl,hb⟩;clear hx0 HC;replace HX:=hbk hb HX;replace HV:=hD (HV.out.keep hb);replace HR:=hD (HR.out.keep hb);replace HB:=hD (jZa HB.out hb);clear hb;have HH1:=hD h1;clear h1;go_wp2
    go_roundw
    case rel=>exact ⟨k+1,by omega,by go_num,by rw [tZt,HALL.out,HH1.out];rfl,HX.out,HV.out,HR.out,HB.out⟩
    case measure=>simp [intOf];omega
  ·have hd:decide ((k:Int)<(R.length:Int))=false:=decide_eq_false (by omega)
   obtain rfl:k=R.length:=by omega
   cases hl:rng R.length 1 10
   ·obtain rfl:false=b:=by rw [<- HBB.out];unfold sZj;rw [List.length_map,hl];rfl
    go_wp2_with fail
    with_reducible refine (jZh _ 1 10 false _ hl).mono ?_
    rintro e wq ⟨rfl,rfl⟩;go_wp2;go_ret;exact ⟨rfl,HB.out⟩
   ·obtain rfl:true=b:=by rw [<- HBB.out];unfold sZj;rw [List.length_map,hl,HALL.out];rfl
    go_wp2_with fail
    with_reducible refine (jZh _ 1 10 true _ hl).mono ?_
    rintro e wq ⟨rfl,rfl⟩;go_wp2;go_ret;exact ⟨rfl,HB.out⟩
theorem tZ8 (A:Option Addr) (c k:Nat) (R:List Nr) (b:Bool) (w:World) (hk:k=R.length) (h:NrV w A R) (hr:RdR w R) (hL:R.length≤1048576) (hm:∀ p∈R,p.n.cs.length≤1048576∧p.n.rs.length≤1048576) (hb:sZj (R.map Nr.n)=b) :
  Calls Tryz.prog 53 #[.agg #[.slice A k c]] w fun e w'=>e=.returned (.bool b)∧Below w.heap.size w w':=by
 subst hk;exact gZ5 A c R b w h hr hL hm hb
theorem qZ8 (A:Option Addr) (c k:Nat) (R:List Nr) (b:Bool) (w:World) (hk:k=R.length) (h:NrV w A R) (hr:RdR w R) (hL:R.length≤1048576) (hm:∀ p∈R,p.n.cs.length≤1048576∧p.n.rs.length≤1048576) (hb:sZj (R.map Nr.n)=b) :
  Calls Tryz.prog 56 #[.agg #[.slice A k c]] w fun e w'=>e=.returned (.bool b)∧Below w.heap.size w w':=by
 subst hk;exact fZ7 A c R b w h hr hL hm hb
theorem has_v (A:Option Addr) (c k:Nat) (i:Int) (r:Bool) (w:World) (hk:k≤1048576) (h:rng i 0 ((k:Int)-1)=r):Calls Tryz.prog 69 #[.agg #[.slice A k c],.int .i64 i] w fun e w'=>e=.returned (.bool r)∧Below w.heap.size w w':=by
 go_enter Tryz.func69,Tryz.ntmps69
 go_wp2_with fail
 with_reducible refine (kZu i 0 ((k:Int)-1) r _ h).mono ?_
 rintro e w' ⟨rfl,rfl⟩;go_wp2;go_ret;exact ⟨rfl,jZd (Below.refl _ _)⟩
theorem sZg {L:List Nd} (h:sZj L=true):TrOK L where
 l1:=(vZ9 h).1
 l10:=(vZ9 h).2
 up:=fun k n hn=>by
  obtain ⟨_,hu,_⟩:=tZl h hn;unfold upB at hu
  split at hu
  ·rename_i e;exact .inl ⟨e,by simpa using hu⟩
  ·rename_i e;rw [pZa] at hu;right;omega
 sz:=fun k n hn=>by
  obtain ⟨hd,_,_⟩:=tZl h hn;simp only [ndB,Bool.and_eq_true,pZa] at hd;obtain ⟨⟨h1,h2⟩,h3,_⟩:=hd;exact ⟨h1,h2,by omega⟩
 pk:=fun k n hn=>by
  obtain ⟨hd,_,_⟩:=tZl h hn;simp only [ndB,Bool.and_eq_true] at hd;exact hd.2.2.2.1
 pl:=fun k n hn=>by
  obtain ⟨hd,_,_⟩:=tZl h hn;simp only [ndB,Bool.and_eq_true] at hd;exact hd.2.2.2.2.2.2.2.2
 li:=fun k n hn h1=>fZ3 (tZl h hn).1 h1
 ce:=fun k n u hn h0 hu h1=>by
  obtain ⟨_,_,hc⟩:=tZl h hn;unfold clB at hc;rw [if_neg (by omega),hu] at hc
  simpa [h1] using hc
section
attribute [local go_sem] jZ0 jZ5 jZ2
theorem fZh {B rb:Nat} {A:Option Addr} {l c m:Nat} (w:World) (h:Rd B rb A l c m w) (hm:m≤10000) :
  Calls Tryz.prog 51 #[.pointer (some ⟨rb,0,none⟩)] w fun e w'=>(∃ (g c0:Nat) (R:List Nr) (a b:Int),e=.returned (.tuple #[.agg #[.slice (some ⟨g,0,none⟩) R.length c0],.int .i64 a,.int .i64 b])∧TK w' w.heap.size g R∧R.length≤c0∧1≤R.length∧R.length≤10)∧Rd B rb A l c (m+10000) w'∧Chg [rb] w w':=by
 have hrw:rb<w.heap.size:=h.lt;have hrB:B≤rb:=h.base
 have hbr:w.heap.size≠rb:=by omega
 go_enter Tryz.func51,Tryz.ntmps51
 go_wp2_with fail
 obtain ⟨W0,hW0⟩:∃ W0,w.alloc (.cells #[.slice none 0 0] 25 (0,0))=W0:=⟨_,rfl⟩
 have hr0:W0.heap[w.heap.size]?=some (.cells #[.slice none 0 0] 25 (0,0)):=by rw [<- hW0];exact newS w _
 have hc0:Chg [rb] w W0:=by rw [<- hW0];exact (Chg.refl [rb] w).alloc _
 have hs0:W0.heap.size=w.heap.size+1:=by rw [<- hW0];simp
 have HR0:=hD (show Rd B rb A l c m W0 by rw [<- hW0];exact h.alloc _);rw [hW0];clear hW0 h
 with_reducible refine (fZ6 _ HR0.out (by omega)).mono ?_
 rintro e w1 ⟨⟨g,c0,R,rfl,htk,hcap,r1,r2⟩,hr,hc⟩
 obtain ⟨bt,hbtE⟩:∃ bt,w1.heap.size=bt:=⟨_,rfl⟩
 have hgb:g<w1.heap.size:=let ⟨_,hh,_⟩:=htk.blk;ltS hh;have hgl:=htk.lo
 have hbt:bt≠rb:=by have:=hr.lt;omega
 have hw1:w.heap.size<w1.heap.size:=by have:=ltS hr0;have:=hc.size;omega
 have htv:TvS w w.heap.size w.heap.size bt rb g c0 R (w1.alloc (.cells #[.slice (some ⟨g,0,none⟩) R.length c0] 25 (0,0))):=by
  rw [<- hbtE];exact ⟨(Below.heap_alloc _ _ _ hw1).trans ((hc.block _ (ltS hr0) (by simpa using hbr)).trans hr0),newS w1 _,⟨by omega,let ⟨cs,hh,h1,h2⟩:=htk.blk;⟨cs,(Below.heap_alloc _ _ _ hgb).trans hh,h1,h2⟩,fun p hp=>(htk.ns p hp).kp (KpL.below (jZd (Below.refl _ _)))⟩,(hc0.trans hc).alloc _⟩
 obtain ⟨wt,hwt⟩:∃ wt,w1.alloc (.cells #[.slice (some ⟨g,0,none⟩) R.length c0] 25 (0,0))=wt:=⟨_,rfl⟩
 obtain ⟨mR,hmR⟩:∃ mR,m+9000=mR:=⟨_,rfl⟩
 have HT:=hD (show TvS w w.heap.size w.heap.size bt rb g c0 R wt by rw [<- hwt];exact htv);have HR:=hD (show Rd B rb A l c mR wt by rw [<- hwt,<- hmR];exact hr.alloc _);clear htv hr hr0 hc0 hc HR0 htk
 have hgr:g≠rb:=by omega
 have hbrg:w.heap.size≠g:=by omega
 have hmR2:mR≤20000:=by omega
 go_wp2_with fail
 clear hwt
 with_reducible refine (qZd (-1) 401 _ HR.out (by omega) (by simp) (by omega) (by omega) (by simp [isIn])).mono ?_
 rintro e w2 ⟨⟨a,rfl,-,-⟩,hr,hc⟩;replace HT:=hD (HT.out.call HR.out hc hrw hbt hbr);replace HR:=hD hr;clear hr hc
 go_wp2_with fail
 with_reducible refine (qZd (-1) 401 _ HR.out (by omega) (by simp) (by omega) (by omega) (by simp [isIn])).mono ?_
 rintro e w3 ⟨⟨b,rfl,-,-⟩,hr,hc⟩;replace HT:=hD (HT.out.call HR.out hc hrw hbt hbr);replace HR:=hD hr;clear hr hc;have d0:=jZc HT.out.box 0
 go_wp2_with fail
 cases hbt2:sZj (R.map Nr.n)
 ·with_reducible refine (qZ8 _ c0 R.length R false _ rfl HT.out.tk.nrv HT.out.tk.rdr (by omega) HT.out.tk.mx hbt2).mono ?_
  rintro e w4 ⟨rfl,hb⟩;clear d0;replace HT:=hD (HT.out.call HR.out ((Chg.refl _ _).of_below hb) hrw hbt hbr);replace HR:=hD (HR.out.below hb);clear hb;have d0:=jZc HT.out.box 0;have cr:=jZc HT.out.res 0;have fr:=jZm HT.out.res 0;go_wp2
  refine vZc (fun W=>TK W w.heap.size g R∧Rd B rb A l c (m+10000) W∧Chg [rb] w W∧W.heap[w.heap.size]?=some (.cells #[.slice (some ⟨g,0,none⟩) R.length c0] 25 (0,0))) ⟨HT.out.tk.res HT.out.res hbrg _,(HR.out.setCell (p:=⟨w.heap.size,0,none⟩) (by show B≤w.heap.size;omega) hbr _).mono (by omega),HT.out.chg.setCell (p:=⟨w.heap.size,0,none⟩) (.inr (Nat.le_refl _)) _,putS HT.out.res _⟩ ?_
  clear HT HR cr fr d0;rintro W ⟨h1,h2,h3,hz⟩;have z0:=jZc hz 0;exact bodyPost_ret (v:=.tuple #[.agg #[.slice (some ⟨g,0,none⟩) R.length c0],.int .i64 a,.int .i64 b]) (by simp only [results,Tryz.results51];go_simp) rfl ⟨⟨g,c0,R,a,b,rfl,h1,hcap,r1,r2⟩,h2,h3⟩
 ·with_reducible refine (qZ8 _ c0 R.length R true _ rfl HT.out.tk.nrv HT.out.tk.rdr (by omega) HT.out.tk.mx hbt2).mono ?_
  rintro e w4 ⟨rfl,hb⟩;clear d0;replace HT:=hD (HT.out.call HR.out ((Chg.refl _ _).of_below hb) hrw hbt hbr);replace HR:=hD (HR.out.below hb);clear hb
  go_wp2_with fail
  with_reducible refine (kZe _ _ HR.out (by omega)).mono ?_
  rintro e w5 ⟨⟨z,rfl,-⟩,hr,hc⟩;replace HT:=hD (HT.out.call HR.out hc hrw hbt hbr);replace HR:=hD hr;clear hr hc
  cases hz0:(z == 0)
  ·have d0:=jZc HT.out.box 0;have cr:=jZc HT.out.res 0;have fr:=jZm HT.out.res 0;go_wp2
   refine vZc (fun W=>TK W w.heap.size g R∧Rd B rb A l c (m+10000) W∧Chg [rb] w W∧W.heap[w.heap.size]?=some (.cells #[.slice (some ⟨g,0,none⟩) R.length c0] 25 (0,0))) ⟨HT.out.tk.res HT.out.res hbrg _,(HR.out.setCell (p:=⟨w.heap.size,0,none⟩) (by show B≤w.heap.size;omega) hbr _).mono (by omega),HT.out.chg.setCell (p:=⟨w.heap.size,0,none⟩) (.inr (Nat.le_refl _)) _,putS HT.out.res _⟩ ?_
   clear HT HR cr fr d0;rintro W ⟨h1,h2,h3,hz⟩;have z0:=jZc hz 0;exact bodyPost_ret (v:=.tuple #[.agg #[.slice (some ⟨g,0,none⟩) R.length c0],.int .i64 a,.int .i64 b]) (by simp only [results,Tryz.results51];go_simp) rfl ⟨⟨g,c0,R,a,b,rfl,h1,hcap,r1,r2⟩,h2,h3⟩
  ·have d0:=jZc HT.out.box 0;have hTO:=sZg hbt2
   go_wp2_with fail
   have hz5:=sizeOf_v (some ⟨g,0,none⟩) c0 R hTO R.length 0 w5 (by omega) (by omega) HT.out.tk.nrv HT.out.tk.rdr;rw [show ((0:Nat):Int)=0 from rfl] at hz5
   with_reducible refine hz5.mono ?_
   rintro e w6 ⟨rfl,hb⟩
   obtain ⟨s1,hs1⟩:∃ s1,(szM (R.map Nr.n) 0).1=s1:=⟨_,rfl⟩
   obtain ⟨s2,hs2⟩:∃ s2,(szM (R.map Nr.n) 0).2=s2:=⟨_,rfl⟩
   rw [hs1,hs2];clear d0 hs1 hs2 hTO;replace HT:=hD (HT.out.call HR.out ((Chg.refl _ _).of_below hb) hrw hbt hbr);replace HR:=hD (HR.out.below hb);clear hb;have d0:=jZc HT.out.box 0;have cr:=jZc HT.out.res 0;have fr:=jZm HT.out.res 0;go_wp2
   refine vZc (fun W=>TK W w.heap.size g R∧Rd B rb A l c (m+10000) W∧Chg [rb] w W∧W.heap[w.heap.size]?=some (.cells #[.slice (some ⟨g,0,none⟩) R.length c0] 25 (0,0))) ⟨HT.out.tk.res HT.out.res hbrg _,(HR.out.setCell (p:=⟨w.heap.size,0,none⟩) (by show B≤w.heap.size;omega) hbr _).mono (by omega),HT.out.chg.setCell (p:=⟨w.heap.size,0,none⟩) (.inr (Nat.le_refl _)) _,putS HT.out.res _⟩ ?_
   clear HT HR cr fr d0;rintro W ⟨h1,h2,h3,hz⟩;have z0:=jZc hz 0;exact bodyPost_ret (v:=.tuple #[.agg #[.slice (some ⟨g,0,none⟩) R.length c0],.int .i64 s1,.int .i64 s2]) (by simp only [results,Tryz.results51];go_simp) rfl ⟨⟨g,c0,R,s1,s2,rfl,h1,hcap,r1,r2⟩,h2,h3⟩
theorem tZ4 (A:Option Addr) (n c:Nat) (w:World) (h:Bts w A n) (hn:n≤c) (hc:c≤maxLen) :
  Calls Tryz.prog 39 #[.slice A n c] w fun e w'=>(∃ (g c0:Nat) (R:List Nr) (a b:Int),e=.returned (.tuple #[.agg #[.slice (some ⟨g,0,none⟩) R.length c0],.int .i64 a,.int .i64 b])∧TK w' w.heap.size g R∧R.length≤c0∧1≤R.length∧R.length≤10)∧Below w.heap.size w w':=by
 go_enter Tryz.func39,Tryz.ntmps39
 go_wp2_with fail
 with_reducible refine (eZe A n c _ (Bts.alloc' h _) hn hc).mono ?_
 rintro e w1 ⟨n',rfl,hr1,hc1⟩;simp only [World.size_alloc] at hr1
 go_wp2_with fail
 with_reducible refine (fZh _ hr1 (by omega)).mono ?_
 rintro e w2 ⟨⟨g,c0,R,a,b,rfl,htk,hcap,r1,r2⟩,hr2,hc2⟩;have hs:=hc1.size;simp only [World.size_alloc] at hs;have hr0:=(hc2.block w.heap.size (by omega) (by simp)).trans ((hc1.block w.heap.size (by simp) (by simp)).trans (heap_alloc_new w _));have hgl:=htk.lo
 have hbrg:w.heap.size≠g:=by omega
 have HK:=hD (show TK w2 w.heap.size g R from ⟨by omega,htk.blk,htk.ns⟩);have HB:=hD (((Chg.refl [w.heap.size+1] w).alloc _).trans ((hc1.mono (by simp)).trans hc2));have cr:=jZc hr0 0;have fr:=jZm hr0 0;clear hc1 hc2 hr1 hr2 hs;have H0:=hD hr0;clear hr0 htk;go_wp2
 refine vZc (fun W=>TK W w.heap.size g R∧Below w.heap.size w W∧W.heap[w.heap.size]?=some (.cells #[.slice (some ⟨g,0,none⟩) R.length c0] 25 (0,0))) ⟨HK.out.res H0.out hbrg _,Chg.below (HB.out.setCell (p:=⟨w.heap.size,0,none⟩) (.inr (Nat.le_refl _)) _) (Nat.le_refl _) (by simp),putS H0.out _⟩ ?_;clear HK H0 HB cr fr;rintro W ⟨h1,h3,hz⟩;have z0:=jZc hz 0
 exact bodyPost_ret (v:=.tuple #[.agg #[.slice (some ⟨g,0,none⟩) R.length c0],.int .i64 a,.int .i64 b]) (by simp only [results,Tryz.results39];go_simp) rfl ⟨⟨g,c0,R,a,b,rfl,h1,hcap,r1,r2⟩,h3⟩
end
theorem hZ3 {L:List Nd} {i k:Nat} {m:Nd} (hm:L[k]?=some m) (hpa:m.pa=(i:Int)):k∈kidD L i:=by
 unfold kidD idsN;refine List.mem_filter.2 ⟨List.mem_range.2 (List.getElem?_eq_some_iff.1 hm).1,?_⟩;unfold kidB;rw [hm]
 simp [hpa]
section
attribute [local go_sem 5000] kZk kZj
end
section
attribute [local go_sem 5000] kZk kZj
theorem box4 {w:World} {b:Nat} {t0 t1 t2 t3:Value} (v0 v1 v2 v3:Value) (h0:w.cell? ⟨b,0,none⟩=some t0) (h1:w.cell? ⟨b,1,none⟩=some t1) (h2:w.cell? ⟨b,2,none⟩=some t2) (h3:w.cell? ⟨b,3,none⟩=some t3) :
  ((((w.setCell ⟨b,0,none⟩ v0).setCell ⟨b,1,none⟩ v1).setCell ⟨b,2,none⟩ v2).setCell ⟨b,3,none⟩ v3).cell? ⟨b,0,none⟩=some v0∧((((w.setCell ⟨b,0,none⟩ v0).setCell ⟨b,1,none⟩ v1).setCell ⟨b,2,none⟩ v2).setCell ⟨b,3,none⟩ v3).cell? ⟨b,1,none⟩=some v1 ∧
  ((((w.setCell ⟨b,0,none⟩ v0).setCell ⟨b,1,none⟩ v1).setCell ⟨b,2,none⟩ v2).setCell ⟨b,3,none⟩ v3).cell? ⟨b,2,none⟩=some v2∧((((w.setCell ⟨b,0,none⟩ v0).setCell ⟨b,1,none⟩ v1).setCell ⟨b,2,none⟩ v2).setCell ⟨b,3,none⟩ v3).cell? ⟨b,3,none⟩=some v3 ∧
  ∀ c o,c≠b→((((w.setCell ⟨b,0,none⟩ v0).setCell ⟨b,1,none⟩ v1).setCell ⟨b,2,none⟩ v2).setCell ⟨b,3,none⟩ v3).cell? ⟨c,o,none⟩=w.cell? ⟨c,o,none⟩:=by
 have ne:∀ i j:Nat,i≠j→(⟨b,i,none⟩:Addr)≠⟨b,j,none⟩:=fun i j h e=>h (by injection e)
 have nb:∀ c i o:Nat,c≠b→(⟨b,i,none⟩:Addr)≠⟨c,o,none⟩:=fun c i o h e=>h (by injection e with e1;exact e1.symm)
 refine ⟨?_,?_,?_,?_,fun c o hc=>?_⟩
 ·rw [World.cell?_setCell_other _ _ _ _ (ne 3 0 (by decide)),World.cell?_setCell_other _ _ _ _ (ne 2 0 (by decide)),World.cell?_setCell_other _ _ _ _ (ne 1 0 (by decide))];exact World.cell?_setCell_same _ _ _ h0
 ·rw [World.cell?_setCell_other _ _ _ _ (ne 3 1 (by decide)),World.cell?_setCell_other _ _ _ _ (ne 2 1 (by decide))];exact World.cell?_setCell_same _ _ _ ((World.cell?_setCell_other _ _ _ _ (ne 0 1 (by decide))).trans h1)
 ·rw [World.cell?_setCell_other _ _ _ _ (ne 3 2 (by decide))];exact World.cell?_setCell_same _ _ _ (((World.cell?_setCell_other _ _ _ _ (ne 1 2 (by decide))).trans (World.cell?_setCell_other _ _ _ _ (ne 0 2 (by decide)))).trans h2)
 ·exact World.cell?_setCell_same _ _ _ ((((World.cell?_setCell_other _ _ _ _ (ne 2 3 (by decide))).trans (World.cell?_setCell_other _ _ _ _ (ne 1 3 (by decide)))).trans (World.cell?_setCell_other _ _ _ _ (ne 0 3 (by decide)))).trans h3)
 ·rw [World.cell?_setCell_other _ _ _ _ (nb c 3 o hc),World.cell?_setCell_other _ _ _ _ (nb c 2 o hc),World.cell?_setCell_other _ _ _ _ (nb c 1 o hc),World.cell?_setCell_other _ _ _ _ (nb c 0 o hc)]
end
section
attribute [local go_sem 5000] kZk kZj
theorem pZc {W:World} {a:Addr} {v:Value} (h:W.cell? a=some v):W.drew.cell? a=some v:=h
theorem tZp {P:Program} {fn:Func} {R:Ending→World→Prop} {e:Exit} {a:Act} {W:World} (F:World→Prop) (hF:F W) (h:∀ W0,F W0→bodyPost P fn R e a W0):bodyPost P fn R e a W:=h W hF
end
section
attribute [local go_sem 5000] kZk kZj
theorem sZr (w:World):Calls Tryz.prog 247 #[] w fun e w'=>e=.returned (.agg #[.func (.func 248) #[] #[],.func (.func 249) #[] #[],.func (.func 250) #[] #[],.func (.func 251) #[] #[]])∧Below w.heap.size w w':=by
 go_enter Tryz.func247,Tryz.ntmps247
 go_wp2
 exact bodyPost_ret (v:=.agg #[.func (.func 248) #[] #[],.func (.func 249) #[] #[],.func (.func 250) #[] #[],.func (.func 251) #[] #[]]) (by simp only [results,Tryz.results247];go_simp) rfl ⟨rfl,(by repeat (first | with_reducible exact Below.refl _ _ | with_reducible assumption | with_reducible refine jZd ?_|(with_reducible refine bset ?_ ?_;rotate_left;((try dsimp only);omega)) | refine jZa ?_ (by assumption) | with_reducible refine Below.drew ?_))⟩
end
section
attribute [local go_sem 5000] kZk kZj
theorem PV.drop {w:World} {L:List Pk} {b off k:Nat} (h:PS w b off L) (hb:b<w.heap.size):PV w (some ⟨b,off+k*9,none⟩) (L.drop k) :=
 ⟨fun _=>⟨b,off+k*9,rfl,hb,fun i p hp=>by
  rw [List.getElem?_drop] at hp
  have:=h (k+i) p hp
  rwa [show off+(k+i)*9=off+k*9+i*9 from by rw [Nat.add_mul,Nat.add_assoc]] at this⟩⟩
theorem size_v (z:Rc) (d:Bool) (w:World):Calls Tryz.prog 244 #[.agg #[.int .i64 (z.x),.int .i64 (z.y),.int .i64 (z.u),.int .i64 (z.v)],.bool d] w fun e w'=>e=.returned (.int .i64 (z.size d))∧Below w.heap.size w w':=by
 cases d
 all_goals
  go_enter Tryz.func244,Tryz.ntmps244
  go_wp2;go_ret;exact ⟨rfl,jZd (Below.refl _ _)⟩
theorem moreOf_no {L:List Pk} {p:Pk} {r:List Pk} {z:Rc} (e:L=p :: r) (h:p.ex=false):rZt L z=0:=by subst e;simp [rZt,h]
theorem moreOf_yes {L:List Pk} {p:Pk} {r:List Pk} {z:Rc} (e:L=p :: r) (h:p.ex=true):rZt L z=kZ1 L p.down (z.size p.down) (z.size p.down) 0:=by subst e;simp [rZt,h]
theorem kZo {w:World} {b:Nat} {a0 a1 a2 a3:Value} {T:TypeId} {fz:Nat × Nat} (h:w.heap[b]?=some (.cells #[a0,a1,a2,a3] T fz)) :
  w.cell? ⟨b,0,none⟩=some a0∧w.cell? ⟨b,1,none⟩=some a1∧w.cell? ⟨b,2,none⟩=some a2∧w.cell? ⟨b,3,none⟩=some a3:=⟨qZi h 0,qZi h 1,qZi h 2,qZi h 3⟩
end
def rZy (r:Rc):List Value:=[.int .i64 r.x,.int .i64 r.y,.int .i64 r.u,.int .i64 r.v]
def In4 (cs:Array Value) (o:Nat) (r:Rc):Prop:=∀ j,j<4→cs[o+j]?=(rZy r)[j]?
def Cells4 (w:World) (b o:Nat) (r:Rc):Prop:=w.cell? ⟨b,o,none⟩=some (.int .i64 r.x)∧w.cell? ⟨b,o+1,none⟩=some (.int .i64 r.y)∧w.cell? ⟨b,o+2,none⟩=some (.int .i64 r.u)∧w.cell? ⟨b,o+3,none⟩=some (.int .i64 r.v)
theorem In4.cells {w:World} {b:Nat} {cs:Array Value} {T:TypeId} {fz:Nat × Nat} {o:Nat} {r:Rc} (hh:w.heap[b]?=some (.cells cs T fz)) (h:In4 cs o r):Cells4 w b o r:=by
 have e:∀ j,j<4→w.cell? ⟨b,o+j,none⟩=(rZy r)[j]?:=fun j hj=>(qZi hh _).trans (h j hj)
 exact ⟨e 0 (by omega),e 1 (by omega),e 2 (by omega),e 3 (by omega)⟩
theorem In4.write {cs:Array Value} {o:Nat} (r:Rc) (h:o+4≤cs.size):In4 (qZ2 cs o (rZy r)) o r:=fun j hj=>dZg _ _ _ _ h hj
theorem In4.keep {cs:Array Value} {o o':Nat} {r q:Rc} (h:In4 cs o' q) (hd:o'+4≤o∨o+4≤o'):In4 (qZ2 cs o (rZy r)) o' q:=fun j hj=>by
 rcases hd with hd | hd
 ·rw [vZm _ _ _ _ (by omega)];exact h j hj
 ·rw [dZp _ _ _ _ (by simp [rZy];omega)];exact h j hj
def Blk4 (w:World) (g:Nat) (M:List Rc):Prop:=∃ cs:Array Value,w.heap[g]?=some (.cells cs 32 (0,0))∧cs.size=M.length*4∧∀ i r,M[i]?=some r→In4 cs (i*4) r
theorem Blk4.keep {w w':World} {g:Nat} {M:List Rc} (h:Blk4 w g M) (hb:Below w.heap.size w w'):Blk4 w' g M:=by
 obtain ⟨cs,hh,hs,hc⟩:=h;exact ⟨cs,(hb.block g (gE hh).1).trans hh,hs,hc⟩
theorem pput4 {w:World} {b:Nat} {cs:Array Value} {T:TypeId} {fz:Nat × Nat} (h:w.heap[b]?=some (.cells cs T fz)) (o:Nat) (r:Rc) :
  ((((w.setCell ⟨b,o,none⟩ (.int .i64 r.x)).setCell ⟨b,o+1,none⟩ (.int .i64 r.y)).setCell ⟨b,o+2,none⟩ (.int .i64 r.u)).setCell ⟨b,o+3,none⟩ (.int .i64 r.v)).heap[b]?=some (.cells (qZ2 cs o (rZy r)) T fz) :=
 fZ8 (fZ8 (fZ8 (fZ8 h _) _) _) _
theorem qZ6 {w:World} {b b':Nat} (h:b'≠b) (o0 o1 o2 o3:Nat) (x0 x1 x2 x3:Value) :
  ((((w.setCell ⟨b,o0,none⟩ x0).setCell ⟨b,o1,none⟩ x1).setCell ⟨b,o2,none⟩ x2).setCell ⟨b,o3,none⟩ x3).heap[b']?=w.heap[b']?:=by
 rw [Below.heap_setCell _ _ _ _ h,Below.heap_setCell _ _ _ _ h,Below.heap_setCell _ _ _ _ h,Below.heap_setCell _ _ _ _ h]
theorem qZb {w:World} {b:Nat} {a0 a1 a2 a3:Value} {T:TypeId} {fz:Nat × Nat} (h:w.heap[b]?=some (.cells #[a0,a1,a2,a3] T fz)) (x0 x1 x2 x3:Value) :
  ((((w.setCell ⟨b,0,none⟩ x0).setCell ⟨b,1,none⟩ x1).setCell ⟨b,2,none⟩ x2).setCell ⟨b,3,none⟩ x3).heap[b]?=some (.cells #[x0,x1,x2,x3] T fz):=by
 rw [fZ8 (fZ8 (fZ8 (fZ8 h x0) x1) x2) x3];rfl
theorem pZ0 {B b:Nat} {a w:World} (h:Below B a w) (hb:B≤b) (o0 o1 o2 o3:Nat) (x0 x1 x2 x3:Value):Below B a ((((w.setCell ⟨b,o0,none⟩ x0).setCell ⟨b,o1,none⟩ x1).setCell ⟨b,o2,none⟩ x2).setCell ⟨b,o3,none⟩ x3) :=
 (((h.setCell hb _).setCell hb _).setCell hb _).setCell hb _
theorem made4:∃ f:Nat→Array Value,(∀ n,(f n).size=n*4)∧∀ (n:Nat) (w:World),n≤1048576→(Instr.makeSlice 28 (.int .i64 (n:Int)) (.int .i64 (n:Int))).run Tryz.prog w=.ok (.slice (some ⟨w.heap.size,0,none⟩) n n) (w.alloc (.cells (f n) 32)):=by
 have hinfo:(Tryz.prog.info? 32).map (fun i=>(i.zero,i.size,i.bytes))=some (some (.agg #[.int .i64 0,.int .i64 0,.int .i64 0,.int .i64 0]),4,32):=by kernel_rfl
 obtain ⟨i,hi,h1,h2,h3⟩:=info_parts hinfo;refine ⟨fun n=>madeCells (Value.agg #[.int .i64 0,.int .i64 0,.int .i64 0,.int .i64 0]).cells (n*4),fun n=>size_madeCells _ _,fun n w hn=>?_⟩;have hr:=run_make (P:=Tryz.prog) w 28 32 i _ Tryz.underlying28 hi h1 .i64 .i64 n n (by omega) (Int.le_refl _) (by rw [h3];omega) (by omega);rw [h2] at hr
 simpa using hr
section
attribute [local go_sem 5000] kZk kZj
theorem rZ2 {P:Program} {f:Func} {R:Ending→World→Prop} {e:Exit} {a:Act} {W:World} (F:World→Prop) (hF:F W) (h:∀ W0,F W0→bodyPost P f R e a W0):bodyPost P f R e a W:=h W hF
theorem Blk4.far {w:World} {g b:Nat} {M:List Rc} (h:Blk4 w g M) (hne:g≠b) (o0 o1 o2 o3:Nat) (x0 x1 x2 x3:Value):Blk4 ((((w.setCell ⟨b,o0,none⟩ x0).setCell ⟨b,o1,none⟩ x1).setCell ⟨b,o2,none⟩ x2).setCell ⟨b,o3,none⟩ x3) g M:=by
 obtain ⟨cs,hh,hs,hc⟩:=h;exact ⟨cs,(qZ6 hne _ _ _ _ _ _ _ _).trans hh,hs,hc⟩
theorem sZd {L:List Pk} {k:Nat} {p:Pk} {z:Rc} {M:List Rc} {Z:Rc} (hg:L[k]?=some p) (h:qZh (L.drop k) z=(M.drop k,Z)) :
  M[k]?=some (cutP z p.s (pZt p (L.drop (k+1)) z)).1∧qZh (L.drop (k+1)) (cutP z p.s (pZt p (L.drop (k+1)) z)).2=(M.drop (k+1),Z):=by
 rw [pZw hg] at h;simp only [qZh,Prod.mk.injEq] at h;obtain ⟨h1,h2⟩:=h
 have e:M.drop k=(M.drop k)[0]?.toList ++ M.drop (k+1):=by
  rw [<- h1]
  have:M.drop (k+1)=(M.drop k).drop 1:=by rw [List.drop_drop]
  rw [this,<- h1];simp
 have g0:(M.drop k)[0]?=some (cutP z p.s (pZt p (L.drop (k+1)) z)).1:=by rw [<- h1];rfl
 refine ⟨by rw [List.getElem?_drop] at g0;simpa using g0,?_⟩
 have h3:M.drop (k+1)=(M.drop k).drop 1:=by rw [List.drop_drop]
 rw [h3,<- h1,<- h2]
 rfl
end
section
attribute [local go_sem 5000] kZk kZj
end
section
section
variable {P:Program} {ops:Array Oper} {md:Region.Mode} {Q:Exit→Act→World→Prop}
theorem tZe {pre:Nat→Bool} {f:Nat} {listed:Array Bool} {a:Act} {w:World} {i j:Nat} {oi oj:Oper} {Oi Oj:Obj} (hr:Region.ready md ops listed=[i,j])
  (hrj:Region.ready md ops (listed.setIfInBounds i true)=[j]) (hri:Region.ready md ops (listed.setIfInBounds j true)=[i]) (hoi:ops[i]?=some oi) (hoj:ops[j]?=some oj) (hgi:oi.guard=none) (hgj:oj.guard=none)
  (hp:qZ5 ops pre listed=false) (hpj:qZ5 ops pre (listed.setIfInBounds i true)=false) (hpi:qZ5 ops pre (listed.setIfInBounds j true)=false) (hij:i≠j)
  (hd:∀ d,oi.dst=some d→oj.dst≠some d)
  (ei:∀ (a':Act) (w':World) (K:Act→World→Prop),K (a'.put oi.dst (.pointer (some ⟨w'.heap.size,0,none⟩))) (w'.alloc Oi)→oi.wp P a' w' K Q)
  (ej:∀ (a':Act) (w':World) (K:Act→World→Prop),K (a'.put oj.dst (.pointer (some ⟨w'.heap.size,0,none⟩))) (w'.alloc Oj)→oj.wp P a' w' K Q)
  (h:∀ x y w',Gr w w'→x≠y→w.heap.size≤x→w.heap.size≤y→w'.heap[x]?=some Oi→w'.heap[y]?=some Oj →
   wpK P md ops Q pre f ((listed.setIfInBounds i true).setIfInBounds j true) ((a.put oi.dst (.pointer (some ⟨x,0,none⟩))).put oj.dst (.pointer (some ⟨y,0,none⟩))) w') :
  wpK P md ops Q pre (f+1+1) listed a w:=by
 have old:∀ (w1 w2:World) (o o':Obj),Gr (w1.alloc o) w2→(w2.alloc o').heap[w1.heap.size]?=some o:=fun w1 w2 o o' g=>by
  have hs:=g.out.size
  simp at hs
  rw [Below.heap_alloc _ _ _ (by omega)];exact (g.out.block _ (by simp)).trans (pZo _ _)
 refine .inr ⟨hp,fun w' hw'=>⟨fun h0=>(by rw [hr] at h0;cases h0),fun k hk=>?_⟩⟩;rw [hr] at hk;simp only [List.mem_cons,List.not_mem_nil,or_false] at hk;have s1:=hw'.out.size
 rcases hk with rfl | rfl
 ·refine bZk hoi hgi (ei _ _ _ ⟨Gr.alloc _ _,sZ1 hrj hoj hgj hpj fun w1 hw1=>ej _ _ _ ⟨Gr.alloc _ _,?_⟩⟩);have s2:=hw1.out.size
  simp at s2
  exact h _ _ _ (hw'.trans ((Gr.alloc _ _).trans (hw1.trans (Gr.alloc _ _)))) (by omega) (by omega) (by omega) (old _ _ _ _ hw1) (pZo _ _)
 ·refine bZk hoj hgj (ej _ _ _ ⟨Gr.alloc _ _,sZ1 hri hoi hgi hpi fun w1 hw1=>ei _ _ _ ⟨Gr.alloc _ _,?_⟩⟩);have s2:=hw1.out.size
  simp at s2
  have:=h _ _ _ (hw'.trans ((Gr.alloc _ _).trans (hw1.trans (Gr.alloc _ _)))) (by omega) (by omega) (by omega) (pZo _ _) (old _ _ _ _ hw1)
  rw [Array.setIfInBounds_comm _ _ hij,Act.put_comm a _ _ hd] at this;exact this
end
end
section
attribute [local go_sem 5000] kZk kZj
def tZr:List Rc→List Value
 | []=>[]
 | r :: t=>rZy r ++ tZr t
theorem fZv (A B:List Rc):tZr (A ++ B)=tZr A ++ tZr B:=by
 induction A with
 | nil=>rfl
 | cons r t ih=>simp [tZr,ih]
theorem tZk {M:List Rc} {k:Nat} {r:Rc} (h:M[k]?=some r):tZr (M.take k) ++ rZy r=tZr (M.take (k+1)):=by
 rw [List.take_add_one,h,Option.toList,fZv];simp [tZr]
theorem rZp {w w':World} {base:Nat} {e:TypeId} {size:Nat} {v:Value} {n:Nat} {xs:List Value} (h:w.ownsRow base e size v n xs) (hb:Below w.heap.size w w'):w'.ownsRow base e size v n xs :=
 h.kept (row:=none) ⟨hb.os,hb.tape,hb.output,hb.size,fun k hk _=>hb.block k hk⟩ (by cases v.ownBlock <;> simp)
theorem gZe {w w':World} {B:Nat} {row:Option Nat} (h:w.grownBy w' row) (hr:∀ g,row=some g→B≤g) (hB:B≤w.heap.size):Below B w w' :=
 ⟨h.os,h.tape,h.output,h.size,fun k hk=>h.block k (by omega) (fun e=>by have:=hr k e.symm;omega)⟩
theorem rect_info:∃ (i:TypeInfo) (z:Value),Tryz.prog.info? 32=some i∧i.zero=some z∧i.size=4∧i.bytes=32∧z.cells.size=4:=by
 have hinfo:(Tryz.prog.info? 32).map (fun i=>(i.zero,i.size,i.bytes))=some (some (.agg #[.int .i64 0,.int .i64 0,.int .i64 0,.int .i64 0]),4,32):=by kernel_rfl
 obtain ⟨i,hi,h1,h2,h3⟩:=info_parts hinfo;exact ⟨i,_,hi,h1,h2,h3,rfl⟩
theorem own_mono {w:World} {base base':Nat} {e:TypeId} {size:Nat} {v:Value} {n:Nat} {xs:List Value} (h:w.ownsRow base e size v n xs) (hb:base'≤base):w.ownsRow base' e size v n xs :=
 ⟨h.1,h.2.imp id fun ⟨g,cap,cur,h1,h2,h3⟩=>⟨g,cap,cur,h1,Nat.le_trans hb h2,h3⟩⟩
theorem new4 (W:World) (r:Rc) (T:TypeId):∀ (j:Nat) (u:Value),(rZy r)[j]?=some u→(W.alloc (.cells #[.int .i64 r.x,.int .i64 r.y,.int .i64 r.u,.int .i64 r.v] T)).cell? ((⟨W.heap.size,0,none⟩:Addr).add j)=some u:=fun j u h=>by
 have hadd:(⟨W.heap.size,0,none⟩:Addr).add j=⟨W.heap.size,j,none⟩:=by unfold Addr.add;split <;> simp_all
 rw [hadd];exact (qZi (pZo W _) j).trans (by simpa [rZy] using h)
theorem uZb {w:World} {base:Nat} {e:TypeId} {size:Nat} {v:Value} {n:Nat} {xs:List Value} (h:w.ownsRow base e size v n xs) {b:Nat} (hb:b<base) (o0 o1 o2 o3:Nat) (x0 x1 x2 x3:Value) :
  ((((w.setCell ⟨b,o0,none⟩ x0).setCell ⟨b,o1,none⟩ x1).setCell ⟨b,o2,none⟩ x2).setCell ⟨b,o3,none⟩ x3).ownsRow base e size v n xs :=
 ownsRow_setCell_below (ownsRow_setCell_below (ownsRow_setCell_below (ownsRow_setCell_below h (a:=⟨b,o0,none⟩) hb x0) (a:=⟨b,o1,none⟩) hb x1) (a:=⟨b,o2,none⟩) hb x2) (a:=⟨b,o3,none⟩) hb x3
theorem uZv (r:Rc):∀ u∈rZy r,u.oneCell'=true:=by intro u hu;simp [rZy] at hu;rcases hu with rfl | rfl | rfl | rfl <;> rfl
theorem uZo {W w5:World} {v:Value} {o:Obj} {lo hi:Nat} (h:(W.alloc o).grownBy w5 v.ownBlock) (hob:∀ k,v.ownBlock=some k→lo≤k∧k<hi) :
  (∀ q,q<W.heap.size→(q<lo∨hi≤q)→w5.heap[q]?=W.heap[q]?)∧∀ B w,Below B w W→B≤lo→B≤W.heap.size→Below B w w5:=by
 refine ⟨fun q hq hd=>(h.block q (by simp;omega) (fun e=>by have:=hob q e.symm;omega)).trans (Below.heap_alloc _ _ _ hq),fun B w hb hB hB2=>?_⟩;exact (hb.alloc hB2 o).trans (gZe h (fun g e=>by have:=hob g e;omega) (by simp;omega))
end
section
attribute [local go_sem 5000] kZk kZj
end
section
attribute [local go_sem 5000] kZk kZj
theorem belowN {B:Nat} {a w:World} (h:Below B a w) (n:Nat):Below B a (w.drewN n):=⟨h.os,h.tape,h.output,h.size,h.block⟩
end
section
attribute [local go_sem 5000] kZk kZj
end
section
attribute [local go_sem 5000] kZk kZj
end
section
attribute [local go_sem 5000] kZk kZj
end
section
attribute [local go_sem 5000] kZk kZj
end
section
attribute [local go_sem 5000] kZk kZj
def insP (r:Rc) (p q:Int):Rc:=⟨r.x+mn p (r.u / 2),r.y+mn q (r.v / 2),mx (r.u-2*p) 0,mx (r.v-2*q) 0⟩
def ancP (r:Rc) (p q k:Int):Rc:=⟨r.x+(r.u-mn p r.u)*(k % 3) / 2,r.y+(r.v-mn q r.v)*(k / 3) / 2,mn p r.u,mn q r.v⟩
def wP (p:Pk) (r:Rc):Int:=if p.fx then (insP r p.px p.py).u else p.w
def hP (p:Pk) (r:Rc):Int:=if p.fy then (insP r p.px p.py).v else p.h
def setP (p:Pk) (r:Rc):Rc:=ancP (insP r p.px p.py) (wP p r) (hP p r) p.an
end
theorem qZp {Q:Exit→Act→World→Prop} {a:Act} {w:World} (h:Q .normal a w):kZ0 Q .normal a w:=h
def setL (L:List Pk) (M:List Rc):List Rc:=List.zipWith setP L M
theorem uZy {L:List Pk} {M:List Rc} (h:M.length=L.length):(setL L M).length=L.length:=by simp [setL,h]
theorem hZy {L:List Pk} {M:List Rc} {k:Nat} {p:Pk} {r:Rc} (hp:L[k]?=some p) (hr:M[k]?=some r):(setL L M)[k]?=some (setP p r):=by
 simp [setL,List.getElem?_zipWith,hp,hr]
def bgL (L:List Pk):Prop:=(∀ p∈L,p.big)∧L.length≤10
theorem tZi {r n:Int} (h1:r≤20000000000000) (h2:1≤n):0≤mx r 0 / n∧mx r 0 / n≤20000000000000:=by
 have:=kZc r 0
 have h3:0≤mx r 0:=by omega
 refine ⟨Int.ediv_nonneg h3 (by omega),?_⟩
 have:=Int.ediv_le_self n h3
 omega
theorem tZ0:∀ {L:List Pk} {d:Bool} {sh rm n:Int},(∀ p∈L,p.big)→0≤sh→sh≤20000000000000→rm≤20000000000000→1≤n→0≤kZ1 L d sh rm n∧kZ1 L d sh rm n≤20000000000000
 | [],d,sh,rm,n,_,h1,h2,h3,h4=>by
  have:=tZi h3 h4
  have:=jZz sh (mx rm 0 / n)
  simp only [kZ1];omega
 | p :: r,d,sh,rm,n,hL,h1,h2,h3,h4=>by
  have hp:=hL p List.mem_cons_self;have nb:=Pk.need_bdW hp d
  have hr:∀ p∈r,p.big:=fun q hq=>hL q (List.mem_cons_of_mem _ hq)
  unfold kZ1
  split
  ·exact tZ0 hr h1 h2 (by omega) (by split <;> omega)
  ·have:=tZi (r:=rm-p.need d) (n:=n) (by omega) h4
   have:=jZz sh (mx (rm-p.need d) 0 / n)
   exact tZ0 hr (by omega) (by omega) h3 h4
def Rc.okW (r:Rc):Prop:=((-1000000000000000≤r.x∧r.x+r.u≤1000000000000000)∧(-1000000000000000≤r.y∧r.y+r.v≤1000000000000000))∧((0≤r.u∧r.u≤20000000000000)∧(0≤r.v∧r.v≤20000000000000))
theorem sZi {r:Rc} {s n:Int} (h:r.okW) (hn:0≤n):(cutP r s n).1.okW∧(cutP r s n).2.okW:=by
 obtain ⟨⟨⟨a1,a2⟩,a3,a4⟩,⟨a5,a6⟩,a7,a8⟩:=h;have m1:=jZz n r.u;have m2:=jZz n r.v;unfold cutP Rc.okW
 split
 ·dsimp only;omega
 ·split
  ·dsimp only;omega
  ·split
   ·dsimp only;omega
   ·dsimp only;omega
theorem Rc.size_bdW {r:Rc} (h:r.okW) (d:Bool):0≤r.size d∧r.size d≤20000000000000:=by
 obtain ⟨⟨⟨a1,a2⟩,a3,a4⟩,⟨a5,a6⟩,a7,a8⟩:=h
 unfold Rc.size;split <;> omega
theorem dZk {p:Pk} {r:List Pk} {z:Rc} (hL:∀ q∈p :: r,q.big) (hz:z.okW):0≤rZt (p :: r) z∧rZt (p :: r) z≤20000000000000:=by
 obtain ⟨b1,b2⟩:=Rc.size_bdW hz p.down;simp only [rZt]
 cases hx:p.ex
 ·simp
 ·have nb:=Pk.need_bdW (hL p List.mem_cons_self) p.down;simp only [if_true];rw [rZ0 rfl hx];exact tZ0 (fun q hq=>hL q (List.mem_cons_of_mem _ hq)) b1 b2 (by omega) (by omega)
theorem tZd {p:Pk} {r:List Pk} {z:Rc} (hL:∀ q∈p :: r,q.big) (hz:z.okW):0≤pZt p r z∧pZt p r z≤21000000000020:=by
 have:=dZk hL hz
 have:=Pk.need_bdW (hL p List.mem_cons_self) p.down
 unfold pZt;omega
def Rc.at (r:Rc) (x y:Int):Rc:=⟨r.x+x,r.y+y,r.u,r.v⟩
theorem cutP_at (r:Rc) (s n x y:Int):cutP (r.at x y) s n=((cutP r s n).1.at x y,(cutP r s n).2.at x y):=by
 unfold cutP Rc.at
 dsimp only
 by_cases h0:s=0
 ·rw [if_pos h0,if_pos h0];dsimp only;simp only [Prod.mk.injEq,Rc.mk.injEq,true_and,and_true];omega
 ·rw [if_neg h0,if_neg h0]
  by_cases h1:s=1
  ·rw [if_pos h1,if_pos h1];dsimp only;simp only [Prod.mk.injEq,Rc.mk.injEq,true_and,and_true];omega
  ·rw [if_neg h1,if_neg h1]
   by_cases h2:s=2
   ·rw [if_pos h2,if_pos h2];dsimp only;simp only [Prod.mk.injEq,Rc.mk.injEq,true_and,and_true];omega
   ·rw [if_neg h2,if_neg h2];dsimp only;simp only [Prod.mk.injEq,Rc.mk.injEq,true_and,and_true];omega
theorem takeOf_at (p:Pk) (r:List Pk) (z:Rc) (x y:Int):pZt p r (z.at x y)=pZt p r z:=rfl
theorem parcM_at:∀ (L:List Pk) (z:Rc) (x y:Int),qZh L (z.at x y)=((qZh L z).1.map (·.at x y),(qZh L z).2.at x y)
 | [],z,x,y=>rfl
 | p :: r,z,x,y=>by
  simp only [qZh,takeOf_at,cutP_at,parcM_at r,List.map_cons]
section
attribute [local go_sem 5000] kZk kZj
def vrW (x y w h:Int):Bool:=decide (0≤w∧w≤20000000000000∧0≤h∧h≤20000000000000∧-1000000000000000≤x∧x+w≤1000000000000000∧-1000000000000000≤y∧y+h≤1000000000000000)
theorem rZ3 {x y w h:Int}:vrW x y w h=true↔(0≤w∧w≤20000000000000∧0≤h∧h≤20000000000000∧-1000000000000000≤x∧x+w≤1000000000000000∧-1000000000000000≤y∧y+h≤1000000000000000):=by simp [vrW]
theorem Rc.okW_vr {r:Rc} (h:r.okW):vrW r.x r.y r.u r.v=true:=by
 obtain ⟨⟨⟨a1,a2⟩,a3,a4⟩,⟨a5,a6⟩,a7,a8⟩:=h;exact rZ3.2 ⟨a5,a6,a7,a8,a1,a2,a3,a4⟩
def SmW (a b c d:Int):Prop:=(-8000000000000000≤a∧a≤8000000000000000)∧(-8000000000000000≤b∧b≤8000000000000000)∧(-8000000000000000≤c∧c≤8000000000000000)∧(-8000000000000000≤d∧d≤8000000000000000)
theorem dZs {a b c d:Int} (h:(-8000000000000000≤a∧a≤8000000000000000)∧(-8000000000000000≤b∧b≤8000000000000000)∧(-8000000000000000≤c∧c≤8000000000000000)∧(-8000000000000000≤d∧d≤8000000000000000)):SmW a b c d:=h
theorem SmW.out {a b c d:Int} (h:SmW a b c d):(-8000000000000000≤a∧a≤8000000000000000)∧(-8000000000000000≤b∧b≤8000000000000000)∧(-8000000000000000≤c∧c≤8000000000000000)∧(-8000000000000000≤d∧d≤8000000000000000):=h
theorem SmW_vr {x y u v:Int} (h:vrW x y u v=true):SmW x y u v:=by rw [rZ3] at h;apply dZs;omega
theorem right_w (x y u v:Int) (w:World) (hS:SmW x y u v):Calls Tryz.prog 117 #[.agg #[.int .i64 (x),.int .i64 (y),.int .i64 (u),.int .i64 (v)]] w fun e w'=>e=.returned (.int .i64 (x+u))∧Below w.heap.size w w':=by
 obtain ⟨⟨s1,s2⟩,⟨s3,s4⟩,⟨s5,s6⟩,⟨s7,s8⟩⟩:=hS.out;clear hS
 go_enter Tryz.func117,Tryz.ntmps117
 go_wp2
 all_goals try go_quiet (fail)
 all_goals try go_wp2
 go_ret;exact ⟨rfl,((Below.refl _ _).alloc (Nat.le_refl _) _)⟩
theorem hZ2 (x y u v:Int) (w:World) (hS:SmW x y u v):Calls Tryz.prog 118 #[.agg #[.int .i64 (x),.int .i64 (y),.int .i64 (u),.int .i64 (v)]] w fun e w'=>e=.returned (.int .i64 (y+v))∧Below w.heap.size w w':=by
 obtain ⟨⟨s1,s2⟩,⟨s3,s4⟩,⟨s5,s6⟩,⟨s7,s8⟩⟩:=hS.out;clear hS
 go_enter Tryz.func118,Tryz.ntmps118
 go_wp2
 all_goals try go_quiet (fail)
 all_goals try go_wp2
 go_ret;exact ⟨rfl,((Below.refl _ _).alloc (Nat.le_refl _) _)⟩
theorem gZi (l t r b:Int) (w:World) (hS:SmW l t r b) :
  Calls Tryz.prog 155 #[.int .i64 l,.int .i64 t,.int .i64 r,.int .i64 b] w fun e w'=>e=.returned (.agg #[.int .i64 (l),.int .i64 (t),.int .i64 (r-l),.int .i64 (b-t)])∧Below w.heap.size w w':=by
 obtain ⟨⟨s1,s2⟩,⟨s3,s4⟩,⟨s5,s6⟩,⟨s7,s8⟩⟩:=hS.out;clear hS
 go_enter Tryz.func155,Tryz.ntmps155
 go_wp2;exact bodyPost_ret (v:=.agg #[.int .i64 (l),.int .i64 (t),.int .i64 (r-l),.int .i64 (b-t)]) (by simp [results,Tryz.results155,go_sem]) rfl ⟨rfl,(Below.refl _ _).alloc (Nat.le_refl _) _⟩
theorem sZk (l t r b W H:Int) (w:World) (hS:SmW l t r b) (hW:r-l=W) (hH:b-t=H) :
  Calls Tryz.prog 155 #[.int .i64 l,.int .i64 t,.int .i64 r,.int .i64 b] w fun e w'=>e=.returned (.agg #[.int .i64 (l),.int .i64 (t),.int .i64 (W),.int .i64 (H)])∧Below w.heap.size w w':=by
 subst hW hH;exact gZi l t r b w hS
theorem cutTop_w (x y u v n m k:Int) (w:World) (h1:vrW x y u v=true) (h2:0≤n) (hm:mn n v=m) (hk:v-m=k) :
  Calls Tryz.prog 248 #[.agg #[.int .i64 (x),.int .i64 (y),.int .i64 (u),.int .i64 (v)],.int .i64 n] w fun e w'=>e=.returned (.tuple #[.agg #[.int .i64 (x),.int .i64 (y),.int .i64 (u),.int .i64 (m)],.agg #[.int .i64 (x),.int .i64 (y+m),.int .i64 (u),.int .i64 (k)]])∧Below w.heap.size w w':=by
 obtain ⟨a1,a2,a3,a4,a5,a6,a7,a8⟩:=rZ3.1 h1;have g:=jZz n v;rw [hm] at g
 have g1:0≤m:=by omega
 have g2:m≤v:=by omega
 have S1:=SmW_vr h1;have S2:SmW x y (x+u) (y+m):=dZs (by omega);have S3:SmW x (y+m) (x+u) (y+v):=dZs (by omega);clear g h1
 have hk1:v-m≤k:=by omega
 have hk2:k≤v-m:=by omega
 clear hk
 go_enter Tryz.func248,Tryz.ntmps248
 go_wp2_with fail
 refine jZg 16 2 (·<16) (by kernel_rfl) (by kernel_rfl) rfl ?_
 iterate 16 (refine jZ3 (fun K hK=>?_);apply Exists.intro;refine ⟨.inl ⟨rfl,fun w' hw'=>?_⟩,?_⟩;(focus ((obtain ⟨hc,hf⟩:=kZi hw'.out);(have hcS:=kZq hw'.out);go_simp <;> first | rfl|(go_at_call 117;exact right_w _ _ _ _ _ (by assumption))|(go_at_call 118;exact hZ2 _ _ _ _ _ (by assumption))|(go_at_call 155;refine sZk _ _ _ _ u m _ ?_ ?_ ?_;assumption;omega;omega)|(go_at_call 155;refine sZk _ _ _ _ u k _ ?_ ?_ ?_;assumption;omega;omega)));(go_simp;refine hK _ ?_;clear hK K))
 refine jZ9 ?_;refine jZ1 (by kernel_rfl) (fun wt1 ht1=>?_);obtain ⟨hct1,hft1⟩:=kZi ht1.out
 have kb0_0:wt1.cell? ⟨w.heap.size+1,0,none⟩=some (.int .i64 (0)):=by go_simp
 have kg0_0:wt1.frozen? ⟨w.heap.size+1,0,none⟩=false:=by go_simp
 have kb0_1:wt1.cell? ⟨w.heap.size+1,1,none⟩=some (.int .i64 (0)):=by go_simp
 have kg0_1:wt1.frozen? ⟨w.heap.size+1,1,none⟩=false:=by go_simp
 have kb0_2:wt1.cell? ⟨w.heap.size+1,2,none⟩=some (.int .i64 (0)):=by go_simp
 have kg0_2:wt1.frozen? ⟨w.heap.size+1,2,none⟩=false:=by go_simp
 have kb0_3:wt1.cell? ⟨w.heap.size+1,3,none⟩=some (.int .i64 (0)):=by go_simp
 have kg0_3:wt1.frozen? ⟨w.heap.size+1,3,none⟩=false:=by go_simp
 have kb1_0:wt1.cell? ⟨w.heap.size+1+1,0,none⟩=some (.int .i64 (0)):=by go_simp
 have kg1_0:wt1.frozen? ⟨w.heap.size+1+1,0,none⟩=false:=by go_simp
 have kb1_1:wt1.cell? ⟨w.heap.size+1+1,1,none⟩=some (.int .i64 (0)):=by go_simp
 have kg1_1:wt1.frozen? ⟨w.heap.size+1+1,1,none⟩=false:=by go_simp
 have kb1_2:wt1.cell? ⟨w.heap.size+1+1,2,none⟩=some (.int .i64 (0)):=by go_simp
 have kg1_2:wt1.frozen? ⟨w.heap.size+1+1,2,none⟩=false:=by go_simp
 have kb1_3:wt1.cell? ⟨w.heap.size+1+1,3,none⟩=some (.int .i64 (0)):=by go_simp
 have kg1_3:wt1.frozen? ⟨w.heap.size+1+1,3,none⟩=false:=by go_simp
 clear hct1 hft1;refine jZn (i:=16) (by kernel_rfl) rfl rfl ?_;go_simp;refine jZn (i:=17) (by kernel_rfl) rfl rfl ?_;go_simp;refine jZq (by kernel_rfl) ?_;have XA:=box4 (w:=wt1) (b:=w.heap.size+1) (.int .i64 (x)) (.int .i64 (y)) (.int .i64 (u)) (.int .i64 (m)) kb0_0 kb0_1 kb0_2 kb0_3
 have XB:=box4 (b:=w.heap.size+1+1) (.int .i64 (x)) (.int .i64 (y+m)) (.int .i64 (u)) (.int .i64 (k)) ((XA.2.2.2.2 (w.heap.size+1+1) 0 (by omega)).trans kb1_0) ((XA.2.2.2.2 (w.heap.size+1+1) 1 (by omega)).trans kb1_1) ((XA.2.2.2.2 (w.heap.size+1+1) 2 (by omega)).trans kb1_2) ((XA.2.2.2.2 (w.heap.size+1+1) 3 (by omega)).trans kb1_3)
 refine kZ0.gen (fun wf=>Below w.heap.size w wf∧wf.cell? ⟨w.heap.size+1,0,none⟩=some (.int .i64 (x))∧wf.cell? ⟨w.heap.size+1,1,none⟩=some (.int .i64 (y))∧wf.cell? ⟨w.heap.size+1,2,none⟩=some (.int .i64 (u))∧wf.cell? ⟨w.heap.size+1,3,none⟩=some (.int .i64 (m))∧wf.cell? ⟨w.heap.size+1+1,0,none⟩=some (.int .i64 (x))∧wf.cell? ⟨w.heap.size+1+1,1,none⟩=some (.int .i64 (y+m))∧wf.cell? ⟨w.heap.size+1+1,2,none⟩=some (.int .i64 (u))∧wf.cell? ⟨w.heap.size+1+1,3,none⟩=some (.int .i64 (k))) ⟨(by repeat (first | with_reducible exact Below.refl _ _ | with_reducible assumption | with_reducible refine jZd ?_|(with_reducible refine bset ?_ ?_;rotate_left;((try dsimp only);omega)) | refine jZa ?_ (by assumption) | with_reducible refine Below.drew ?_)),(XB.2.2.2.2 (w.heap.size+1) 0 (by omega)).trans XA.1,(XB.2.2.2.2 (w.heap.size+1) 1 (by omega)).trans XA.2.1,(XB.2.2.2.2 (w.heap.size+1) 2 (by omega)).trans XA.2.2.1,(XB.2.2.2.2 (w.heap.size+1) 3 (by omega)).trans XA.2.2.2.1,XB.1,XB.2.1,XB.2.2.1,XB.2.2.2.1⟩ (fun wf hwf=>?_)
 clear XA XB kb0_0 kb0_1 kb0_2 kb0_3 kb1_0 kb1_1 kb1_2 kb1_3 kg0_0 kg0_1 kg0_2 kg0_3 kg1_0 kg1_1 kg1_2 kg1_3;obtain ⟨hBf,z0,z1,z2,z3,z4,z5,z6,z7⟩:=hwf;go_wp2
 exact bodyPost_ret (v:=.tuple #[.agg #[.int .i64 (x),.int .i64 (y),.int .i64 (u),.int .i64 (m)],.agg #[.int .i64 (x),.int .i64 (y+m),.int .i64 (u),.int .i64 (k)]]) (by simp only [results,Tryz.results248];go_simp) rfl ⟨rfl,(by repeat (first | with_reducible exact Below.refl _ _ | with_reducible assumption | with_reducible refine jZd ?_|(with_reducible refine bset ?_ ?_;rotate_left;((try dsimp only);omega)) | refine jZa ?_ (by assumption) | with_reducible refine Below.drew ?_))⟩
theorem fZ4 (x y u v n m k:Int) (w:World) (h1:vrW x y u v=true) (h2:0≤n) (hm:mn n u=m) (hk:u-m=k) :
  Calls Tryz.prog 250 #[.agg #[.int .i64 (x),.int .i64 (y),.int .i64 (u),.int .i64 (v)],.int .i64 n] w fun e w'=>e=.returned (.tuple #[.agg #[.int .i64 (x),.int .i64 (y),.int .i64 (m),.int .i64 (v)],.agg #[.int .i64 (x+m),.int .i64 (y),.int .i64 (k),.int .i64 (v)]])∧Below w.heap.size w w':=by
 obtain ⟨a1,a2,a3,a4,a5,a6,a7,a8⟩:=rZ3.1 h1;have g:=jZz n u;rw [hm] at g
 have g1:0≤m:=by omega
 have g2:m≤u:=by omega
 have S1:=SmW_vr h1;have S2:SmW x y (x+m) (y+v):=dZs (by omega);have S3:SmW (x+m) y (x+u) (y+v):=dZs (by omega);clear g h1
 have hk1:u-m≤k:=by omega
 have hk2:k≤u-m:=by omega
 clear hk
 go_enter Tryz.func250,Tryz.ntmps250
 go_wp2_with fail
 refine jZg 16 2 (·<16) (by kernel_rfl) (by kernel_rfl) rfl ?_
 iterate 16 (refine jZ3 (fun K hK=>?_);apply Exists.intro;refine ⟨.inl ⟨rfl,fun w' hw'=>?_⟩,?_⟩;(focus ((obtain ⟨hc,hf⟩:=kZi hw'.out);(have hcS:=kZq hw'.out);go_simp <;> first | rfl|(go_at_call 117;exact right_w _ _ _ _ _ (by assumption))|(go_at_call 118;exact hZ2 _ _ _ _ _ (by assumption))|(go_at_call 155;refine sZk _ _ _ _ m v _ ?_ ?_ ?_;assumption;omega;omega)|(go_at_call 155;refine sZk _ _ _ _ k v _ ?_ ?_ ?_;assumption;omega;omega)));(go_simp;refine hK _ ?_;clear hK K))
 refine jZ9 ?_;refine jZ1 (by kernel_rfl) (fun wt1 ht1=>?_);obtain ⟨hct1,hft1⟩:=kZi ht1.out
 have kb0_0:wt1.cell? ⟨w.heap.size+1,0,none⟩=some (.int .i64 (0)):=by go_simp
 have kg0_0:wt1.frozen? ⟨w.heap.size+1,0,none⟩=false:=by go_simp
 have kb0_1:wt1.cell? ⟨w.heap.size+1,1,none⟩=some (.int .i64 (0)):=by go_simp
 have kg0_1:wt1.frozen? ⟨w.heap.size+1,1,none⟩=false:=by go_simp
 have kb0_2:wt1.cell? ⟨w.heap.size+1,2,none⟩=some (.int .i64 (0)):=by go_simp
 have kg0_2:wt1.frozen? ⟨w.heap.size+1,2,none⟩=false:=by go_simp
 have kb0_3:wt1.cell? ⟨w.heap.size+1,3,none⟩=some (.int .i64 (0)):=by go_simp
 have kg0_3:wt1.frozen? ⟨w.heap.size+1,3,none⟩=false:=by go_simp
 have kb1_0:wt1.cell? ⟨w.heap.size+1+1,0,none⟩=some (.int .i64 (0)):=by go_simp
 have kg1_0:wt1.frozen? ⟨w.heap.size+1+1,0,none⟩=false:=by go_simp
 have kb1_1:wt1.cell? ⟨w.heap.size+1+1,1,none⟩=some (.int .i64 (0)):=by go_simp
 have kg1_1:wt1.frozen? ⟨w.heap.size+1+1,1,none⟩=false:=by go_simp
 have kb1_2:wt1.cell? ⟨w.heap.size+1+1,2,none⟩=some (.int .i64 (0)):=by go_simp
 have kg1_2:wt1.frozen? ⟨w.heap.size+1+1,2,none⟩=false:=by go_simp
 have kb1_3:wt1.cell? ⟨w.heap.size+1+1,3,none⟩=some (.int .i64 (0)):=by go_simp
 have kg1_3:wt1.frozen? ⟨w.heap.size+1+1,3,none⟩=false:=by go_simp
 clear hct1 hft1;refine jZn (i:=16) (by kernel_rfl) rfl rfl ?_;go_simp;refine jZn (i:=17) (by kernel_rfl) rfl rfl ?_;go_simp;refine jZq (by kernel_rfl) ?_;have XA:=box4 (w:=wt1) (b:=w.heap.size+1) (.int .i64 (x)) (.int .i64 (y)) (.int .i64 (m)) (.int .i64 (v)) kb0_0 kb0_1 kb0_2 kb0_3
 have XB:=box4 (b:=w.heap.size+1+1) (.int .i64 (x+m)) (.int .i64 (y)) (.int .i64 (k)) (.int .i64 (v)) ((XA.2.2.2.2 (w.heap.size+1+1) 0 (by omega)).trans kb1_0) ((XA.2.2.2.2 (w.heap.size+1+1) 1 (by omega)).trans kb1_1) ((XA.2.2.2.2 (w.heap.size+1+1) 2 (by omega)).trans kb1_2) ((XA.2.2.2.2 (w.heap.size+1+1) 3 (by omega)).trans kb1_3)
 refine kZ0.gen (fun wf=>Below w.heap.size w wf∧wf.cell? ⟨w.heap.size+1,0,none⟩=some (.int .i64 (x))∧wf.cell? ⟨w.heap.size+1,1,none⟩=some (.int .i64 (y))∧wf.cell? ⟨w.heap.size+1,2,none⟩=some (.int .i64 (m))∧wf.cell? ⟨w.heap.size+1,3,none⟩=some (.int .i64 (v))∧wf.cell? ⟨w.heap.size+1+1,0,none⟩=some (.int .i64 (x+m))∧wf.cell? ⟨w.heap.size+1+1,1,none⟩=some (.int .i64 (y))∧wf.cell? ⟨w.heap.size+1+1,2,none⟩=some (.int .i64 (k))∧wf.cell? ⟨w.heap.size+1+1,3,none⟩=some (.int .i64 (v))) ⟨(by repeat (first | with_reducible exact Below.refl _ _ | with_reducible assumption | with_reducible refine jZd ?_|(with_reducible refine bset ?_ ?_;rotate_left;((try dsimp only);omega)) | refine jZa ?_ (by assumption) | with_reducible refine Below.drew ?_)),(XB.2.2.2.2 (w.heap.size+1) 0 (by omega)).trans XA.1,(XB.2.2.2.2 (w.heap.size+1) 1 (by omega)).trans XA.2.1,(XB.2.2.2.2 (w.heap.size+1) 2 (by omega)).trans XA.2.2.1,(XB.2.2.2.2 (w.heap.size+1) 3 (by omega)).trans XA.2.2.2.1,XB.1,XB.2.1,XB.2.2.1,XB.2.2.2.1⟩ (fun wf hwf=>?_)
 clear XA XB kb0_0 kb0_1 kb0_2 kb0_3 kb1_0 kb1_1 kb1_2 kb1_3 kg0_0 kg0_1 kg0_2 kg0_3 kg1_0 kg1_1 kg1_2 kg1_3;obtain ⟨hBf,z0,z1,z2,z3,z4,z5,z6,z7⟩:=hwf;go_wp2
 exact bodyPost_ret (v:=.tuple #[.agg #[.int .i64 (x),.int .i64 (y),.int .i64 (m),.int .i64 (v)],.agg #[.int .i64 (x+m),.int .i64 (y),.int .i64 (k),.int .i64 (v)]]) (by simp only [results,Tryz.results250];go_simp) rfl ⟨rfl,(by repeat (first | with_reducible exact Below.refl _ _ | with_reducible assumption | with_reducible refine jZd ?_|(with_reducible refine bset ?_ ?_;rotate_left;((try dsimp only);omega)) | refine jZa ?_ (by assumption) | with_reducible refine Below.drew ?_))⟩
theorem hZh (x y u v n:Int) (w:World) (h1:vrW x y u v=true) (h2:0≤n) :
  Calls Tryz.prog 249 #[.agg #[.int .i64 (x),.int .i64 (y),.int .i64 (u),.int .i64 (v)],.int .i64 n] w fun e w'=>e=.returned (.tuple #[.agg #[.int .i64 (x),.int .i64 (y+(v-mn n v)),.int .i64 (u),.int .i64 (mn n v)],.agg #[.int .i64 (x),.int .i64 (y),.int .i64 (u),.int .i64 (v-mn n v)]])∧Below w.heap.size w w':=by
 obtain ⟨a1,a2,a3,a4,a5,a6,a7,a8⟩:=rZ3.1 h1;have g:=jZz n v
 have g1:0≤mn n v:=by omega
 have g2:mn n v≤v:=by omega
 have C:=hD (fun w=>cutTop_w x y u v (v-mn n v) (v-mn n v) (mn n v) w h1 (by omega) (by have:=jZz (v-mn n v) v;omega) (by omega));clear g
 go_enter Tryz.func249,Tryz.ntmps249
 go_wp2_with (go_at_call 248;refine (C.out _).mono ?_;rintro e w1 ⟨rfl,hb⟩;obtain ⟨hc,hf⟩:=kZi hb;(first|(replace hB:=jZa hB hb)|(replace hB:=jZa (jZd hB) hb)|(replace hB:=jZa (jZd (jZd hB)) hb) | have hB:=hb);obtain ⟨hC,hF,hZ,hN⟩:=bcell4 hB;(try (have hlt:=Nat.lt_of_lt_of_le hlt hb.size;have hne:=Nat.ne_of_lt hlt));(have hs0:=hb.size);(try simp only [World.size_alloc] at hs0);(try (have hlt:=Nat.lt_of_succ_le hs0;have hne:=Nat.ne_of_lt hlt));(have kz0:w.heap.size<w1.heap.size:=by have:=hB.size;simp at this;omega);(have kn0:¬ w.heap.size=w1.heap.size:=by omega);(have kz1:w.heap.size+1<w1.heap.size:=by have:=hB.size;simp at this;omega);(have kn1:¬ w.heap.size+1=w1.heap.size:=by omega);(have kz2:w.heap.size+1+1<w1.heap.size:=by have:=hB.size;simp at this;omega);(have kn2:¬ w.heap.size+1+1=w1.heap.size:=by omega);(have kc0:w1.cell? ⟨w.heap.size+1,0,none⟩=some (.int .i64 (0)):=by go_simp);(have kf0:w1.frozen? ⟨w.heap.size+1,0,none⟩=false:=by go_simp);(have kc1:w1.cell? ⟨w.heap.size+1,1,none⟩=some (.int .i64 (0)):=by go_simp);(have kf1:w1.frozen? ⟨w.heap.size+1,1,none⟩=false:=by go_simp);(have kc2:w1.cell? ⟨w.heap.size+1,2,none⟩=some (.int .i64 (0)):=by go_simp);(have kf2:w1.frozen? ⟨w.heap.size+1,2,none⟩=false:=by go_simp);(have kc3:w1.cell? ⟨w.heap.size+1,3,none⟩=some (.int .i64 (0)):=by go_simp);(have kf3:w1.frozen? ⟨w.heap.size+1,3,none⟩=false:=by go_simp);(have kc0:w1.cell? ⟨w.heap.size+1+1,0,none⟩=some (.int .i64 (0)):=by go_simp);(have kf0:w1.frozen? ⟨w.heap.size+1+1,0,none⟩=false:=by go_simp);(have kc1:w1.cell? ⟨w.heap.size+1+1,1,none⟩=some (.int .i64 (0)):=by go_simp);(have kf1:w1.frozen? ⟨w.heap.size+1+1,1,none⟩=false:=by go_simp);(have kc2:w1.cell? ⟨w.heap.size+1+1,2,none⟩=some (.int .i64 (0)):=by go_simp);(have kf2:w1.frozen? ⟨w.heap.size+1+1,2,none⟩=false:=by go_simp);(have kc3:w1.cell? ⟨w.heap.size+1+1,3,none⟩=some (.int .i64 (0)):=by go_simp);(have kf3:w1.frozen? ⟨w.heap.size+1+1,3,none⟩=false:=by go_simp);clear hC hF hc hf hZ hN)
 refine dZd (fun W0=>Below w.heap.size w W0∧W0.cell? ⟨w.heap.size+1,0,none⟩=some (.int .i64 0)∧W0.frozen? ⟨w.heap.size+1,0,none⟩=false∧W0.cell? ⟨w.heap.size+1,1,none⟩=some (.int .i64 0)∧W0.frozen? ⟨w.heap.size+1,1,none⟩=false∧W0.cell? ⟨w.heap.size+1,2,none⟩=some (.int .i64 0)∧W0.frozen? ⟨w.heap.size+1,2,none⟩=false∧W0.cell? ⟨w.heap.size+1,3,none⟩=some (.int .i64 0)∧W0.frozen? ⟨w.heap.size+1,3,none⟩=false∧W0.cell? ⟨w.heap.size+1+1,0,none⟩=some (.int .i64 0)∧W0.frozen? ⟨w.heap.size+1+1,0,none⟩=false∧W0.cell? ⟨w.heap.size+1+1,1,none⟩=some (.int .i64 0)∧W0.frozen? ⟨w.heap.size+1+1,1,none⟩=false∧W0.cell? ⟨w.heap.size+1+1,2,none⟩=some (.int .i64 0)∧W0.frozen? ⟨w.heap.size+1+1,2,none⟩=false∧W0.cell? ⟨w.heap.size+1+1,3,none⟩=some (.int .i64 0)∧W0.frozen? ⟨w.heap.size+1+1,3,none⟩=false∧W0.cell? ⟨w1.heap.size,0,none⟩=some (.int .i64 (x))∧W0.cell? ⟨w1.heap.size,1,none⟩=some (.int .i64 (y))∧W0.cell? ⟨w1.heap.size,2,none⟩=some (.int .i64 (u))∧W0.cell? ⟨w1.heap.size,3,none⟩=some (.int .i64 (v-mn n v))∧W0.cell? ⟨w1.heap.size+1,0,none⟩=some (.int .i64 (x))∧W0.cell? ⟨w1.heap.size+1,1,none⟩=some (.int .i64 (y+(v-mn n v)))∧W0.cell? ⟨w1.heap.size+1,2,none⟩=some (.int .i64 (u))∧W0.cell? ⟨w1.heap.size+1,3,none⟩=some (.int .i64 (mn n v))) ⟨(by repeat (first | with_reducible exact Below.refl _ _ | with_reducible assumption | with_reducible refine jZd ?_|(with_reducible refine bset ?_ ?_;rotate_left;((try dsimp only);omega)) | refine jZa ?_ (by assumption) | with_reducible refine Below.drew ?_)),?_⟩ (fun W0 hW0=>?_)
 ·go_simp
 obtain ⟨hBW,p0,pf0,p1,pf1,p2,pf2,p3,pf3,q0,qf0,q1,qf1,q2,qf2,q3,qf3,r0,r1,r2,r3,s0,s1,s2,s3⟩:=hW0;generalize w1.heap.size=b6 at *
 go_region
 all_goals go_wp2
 all_goals
  have XA:=box4 (w:=W0) (b:=w.heap.size+1) (.int .i64 (x)) (.int .i64 (y+(v-mn n v))) (.int .i64 (u)) (.int .i64 (mn n v)) p0 p1 p2 p3
  have XB:=box4 (b:=w.heap.size+1+1) (.int .i64 (x)) (.int .i64 (y)) (.int .i64 (u)) (.int .i64 (v-mn n v)) ((XA.2.2.2.2 (w.heap.size+1+1) 0 (by omega)).trans q0) ((XA.2.2.2.2 (w.heap.size+1+1) 1 (by omega)).trans q1) ((XA.2.2.2.2 (w.heap.size+1+1) 2 (by omega)).trans q2) ((XA.2.2.2.2 (w.heap.size+1+1) 3 (by omega)).trans q3)
  refine tZp (fun wf=>Below w.heap.size w wf∧wf.cell? ⟨w.heap.size+1,0,none⟩=some (.int .i64 (x))∧wf.cell? ⟨w.heap.size+1,1,none⟩=some (.int .i64 (y+(v-mn n v)))∧wf.cell? ⟨w.heap.size+1,2,none⟩=some (.int .i64 (u))∧wf.cell? ⟨w.heap.size+1,3,none⟩=some (.int .i64 (mn n v))∧wf.cell? ⟨w.heap.size+1+1,0,none⟩=some (.int .i64 (x))∧wf.cell? ⟨w.heap.size+1+1,1,none⟩=some (.int .i64 (y))∧wf.cell? ⟨w.heap.size+1+1,2,none⟩=some (.int .i64 (u))∧wf.cell? ⟨w.heap.size+1+1,3,none⟩=some (.int .i64 (v-mn n v))) ⟨(by with_reducible refine Below.drew ?_;exact (by repeat (first | with_reducible exact Below.refl _ _ | with_reducible assumption | with_reducible refine jZd ?_|(with_reducible refine bset ?_ ?_;rotate_left;((try dsimp only);omega)) | refine jZa ?_ (by assumption) | with_reducible refine Below.drew ?_))),pZc ((XB.2.2.2.2 (w.heap.size+1) 0 (by omega)).trans XA.1),pZc ((XB.2.2.2.2 (w.heap.size+1) 1 (by omega)).trans XA.2.1),pZc ((XB.2.2.2.2 (w.heap.size+1) 2 (by omega)).trans XA.2.2.1),pZc ((XB.2.2.2.2 (w.heap.size+1) 3 (by omega)).trans XA.2.2.2.1),pZc (XB.1),pZc (XB.2.1),pZc (XB.2.2.1),pZc (XB.2.2.2.1)⟩ (fun wf hwf=>?_)
  clear XA XB;obtain ⟨hBf,z0,z1,z2,z3,z4,z5,z6,z7⟩:=hwf
  exact bodyPost_ret (v:=.tuple #[.agg #[.int .i64 (x),.int .i64 (y+(v-mn n v)),.int .i64 (u),.int .i64 (mn n v)],.agg #[.int .i64 (x),.int .i64 (y),.int .i64 (u),.int .i64 (v-mn n v)]]) (by simp only [results,Tryz.results249];go_simp) rfl ⟨rfl,(by repeat (first | with_reducible exact Below.refl _ _ | with_reducible assumption | with_reducible refine jZd ?_|(with_reducible refine bset ?_ ?_;rotate_left;((try dsimp only);omega)) | refine jZa ?_ (by assumption) | with_reducible refine Below.drew ?_))⟩
theorem cutRight_w (x y u v n:Int) (w:World) (h1:vrW x y u v=true) (h2:0≤n) :
  Calls Tryz.prog 251 #[.agg #[.int .i64 (x),.int .i64 (y),.int .i64 (u),.int .i64 (v)],.int .i64 n] w fun e w'=>e=.returned (.tuple #[.agg #[.int .i64 (x+(u-mn n u)),.int .i64 (y),.int .i64 (mn n u),.int .i64 (v)],.agg #[.int .i64 (x),.int .i64 (y),.int .i64 (u-mn n u),.int .i64 (v)]])∧Below w.heap.size w w':=by
 obtain ⟨a1,a2,a3,a4,a5,a6,a7,a8⟩:=rZ3.1 h1;have g:=jZz n u
 have g1:0≤mn n u:=by omega
 have g2:mn n u≤u:=by omega
 have C:=hD (fun w=>fZ4 x y u v (u-mn n u) (u-mn n u) (mn n u) w h1 (by omega) (by have:=jZz (u-mn n u) u;omega) (by omega));clear g
 go_enter Tryz.func251,Tryz.ntmps251
 go_wp2_with (go_at_call 250;refine (C.out _).mono ?_;rintro e w1 ⟨rfl,hb⟩;obtain ⟨hc,hf⟩:=kZi hb;(first|(replace hB:=jZa hB hb)|(replace hB:=jZa (jZd hB) hb)|(replace hB:=jZa (jZd (jZd hB)) hb) | have hB:=hb);obtain ⟨hC,hF,hZ,hN⟩:=bcell4 hB;(try (have hlt:=Nat.lt_of_lt_of_le hlt hb.size;have hne:=Nat.ne_of_lt hlt));(have hs0:=hb.size);(try simp only [World.size_alloc] at hs0);(try (have hlt:=Nat.lt_of_succ_le hs0;have hne:=Nat.ne_of_lt hlt));(have kz0:w.heap.size<w1.heap.size:=by have:=hB.size;simp at this;omega);(have kn0:¬ w.heap.size=w1.heap.size:=by omega);(have kz1:w.heap.size+1<w1.heap.size:=by have:=hB.size;simp at this;omega);(have kn1:¬ w.heap.size+1=w1.heap.size:=by omega);(have kz2:w.heap.size+1+1<w1.heap.size:=by have:=hB.size;simp at this;omega);(have kn2:¬ w.heap.size+1+1=w1.heap.size:=by omega);(have kc0:w1.cell? ⟨w.heap.size+1,0,none⟩=some (.int .i64 (0)):=by go_simp);(have kf0:w1.frozen? ⟨w.heap.size+1,0,none⟩=false:=by go_simp);(have kc1:w1.cell? ⟨w.heap.size+1,1,none⟩=some (.int .i64 (0)):=by go_simp);(have kf1:w1.frozen? ⟨w.heap.size+1,1,none⟩=false:=by go_simp);(have kc2:w1.cell? ⟨w.heap.size+1,2,none⟩=some (.int .i64 (0)):=by go_simp);(have kf2:w1.frozen? ⟨w.heap.size+1,2,none⟩=false:=by go_simp);(have kc3:w1.cell? ⟨w.heap.size+1,3,none⟩=some (.int .i64 (0)):=by go_simp);(have kf3:w1.frozen? ⟨w.heap.size+1,3,none⟩=false:=by go_simp);(have kc0:w1.cell? ⟨w.heap.size+1+1,0,none⟩=some (.int .i64 (0)):=by go_simp);(have kf0:w1.frozen? ⟨w.heap.size+1+1,0,none⟩=false:=by go_simp);(have kc1:w1.cell? ⟨w.heap.size+1+1,1,none⟩=some (.int .i64 (0)):=by go_simp);(have kf1:w1.frozen? ⟨w.heap.size+1+1,1,none⟩=false:=by go_simp);(have kc2:w1.cell? ⟨w.heap.size+1+1,2,none⟩=some (.int .i64 (0)):=by go_simp);(have kf2:w1.frozen? ⟨w.heap.size+1+1,2,none⟩=false:=by go_simp);(have kc3:w1.cell? ⟨w.heap.size+1+1,3,none⟩=some (.int .i64 (0)):=by go_simp);(have kf3:w1.frozen? ⟨w.heap.size+1+1,3,none⟩=false:=by go_simp);clear hC hF hc hf hZ hN)
 refine dZd (fun W0=>Below w.heap.size w W0∧W0.cell? ⟨w.heap.size+1,0,none⟩=some (.int .i64 0)∧W0.frozen? ⟨w.heap.size+1,0,none⟩=false∧W0.cell? ⟨w.heap.size+1,1,none⟩=some (.int .i64 0)∧W0.frozen? ⟨w.heap.size+1,1,none⟩=false∧W0.cell? ⟨w.heap.size+1,2,none⟩=some (.int .i64 0)∧W0.frozen? ⟨w.heap.size+1,2,none⟩=false∧W0.cell? ⟨w.heap.size+1,3,none⟩=some (.int .i64 0)∧W0.frozen? ⟨w.heap.size+1,3,none⟩=false∧W0.cell? ⟨w.heap.size+1+1,0,none⟩=some (.int .i64 0)∧W0.frozen? ⟨w.heap.size+1+1,0,none⟩=false∧W0.cell? ⟨w.heap.size+1+1,1,none⟩=some (.int .i64 0)∧W0.frozen? ⟨w.heap.size+1+1,1,none⟩=false∧W0.cell? ⟨w.heap.size+1+1,2,none⟩=some (.int .i64 0)∧W0.frozen? ⟨w.heap.size+1+1,2,none⟩=false∧W0.cell? ⟨w.heap.size+1+1,3,none⟩=some (.int .i64 0)∧W0.frozen? ⟨w.heap.size+1+1,3,none⟩=false∧W0.cell? ⟨w1.heap.size,0,none⟩=some (.int .i64 (x))∧W0.cell? ⟨w1.heap.size,1,none⟩=some (.int .i64 (y))∧W0.cell? ⟨w1.heap.size,2,none⟩=some (.int .i64 (u-mn n u))∧W0.cell? ⟨w1.heap.size,3,none⟩=some (.int .i64 (v))∧W0.cell? ⟨w1.heap.size+1,0,none⟩=some (.int .i64 (x+(u-mn n u)))∧W0.cell? ⟨w1.heap.size+1,1,none⟩=some (.int .i64 (y))∧W0.cell? ⟨w1.heap.size+1,2,none⟩=some (.int .i64 (mn n u))∧W0.cell? ⟨w1.heap.size+1,3,none⟩=some (.int .i64 (v))) ⟨(by repeat (first | with_reducible exact Below.refl _ _ | with_reducible assumption | with_reducible refine jZd ?_|(with_reducible refine bset ?_ ?_;rotate_left;((try dsimp only);omega)) | refine jZa ?_ (by assumption) | with_reducible refine Below.drew ?_)),?_⟩ (fun W0 hW0=>?_)
 ·go_simp
 obtain ⟨hBW,p0,pf0,p1,pf1,p2,pf2,p3,pf3,q0,qf0,q1,qf1,q2,qf2,q3,qf3,r0,r1,r2,r3,s0,s1,s2,s3⟩:=hW0;generalize w1.heap.size=b6 at *
 go_region
 all_goals go_wp2
 all_goals
  have XA:=box4 (w:=W0) (b:=w.heap.size+1) (.int .i64 (x+(u-mn n u))) (.int .i64 (y)) (.int .i64 (mn n u)) (.int .i64 (v)) p0 p1 p2 p3
  have XB:=box4 (b:=w.heap.size+1+1) (.int .i64 (x)) (.int .i64 (y)) (.int .i64 (u-mn n u)) (.int .i64 (v)) ((XA.2.2.2.2 (w.heap.size+1+1) 0 (by omega)).trans q0) ((XA.2.2.2.2 (w.heap.size+1+1) 1 (by omega)).trans q1) ((XA.2.2.2.2 (w.heap.size+1+1) 2 (by omega)).trans q2) ((XA.2.2.2.2 (w.heap.size+1+1) 3 (by omega)).trans q3)
  refine tZp (fun wf=>Below w.heap.size w wf∧wf.cell? ⟨w.heap.size+1,0,none⟩=some (.int .i64 (x+(u-mn n u)))∧wf.cell? ⟨w.heap.size+1,1,none⟩=some (.int .i64 (y))∧wf.cell? ⟨w.heap.size+1,2,none⟩=some (.int .i64 (mn n u))∧wf.cell? ⟨w.heap.size+1,3,none⟩=some (.int .i64 (v))∧wf.cell? ⟨w.heap.size+1+1,0,none⟩=some (.int .i64 (x))∧wf.cell? ⟨w.heap.size+1+1,1,none⟩=some (.int .i64 (y))∧wf.cell? ⟨w.heap.size+1+1,2,none⟩=some (.int .i64 (u-mn n u))∧wf.cell? ⟨w.heap.size+1+1,3,none⟩=some (.int .i64 (v))) ⟨(by with_reducible refine Below.drew ?_;exact (by repeat (first | with_reducible exact Below.refl _ _ | with_reducible assumption | with_reducible refine jZd ?_|(with_reducible refine bset ?_ ?_;rotate_left;((try dsimp only);omega)) | refine jZa ?_ (by assumption) | with_reducible refine Below.drew ?_))),pZc ((XB.2.2.2.2 (w.heap.size+1) 0 (by omega)).trans XA.1),pZc ((XB.2.2.2.2 (w.heap.size+1) 1 (by omega)).trans XA.2.1),pZc ((XB.2.2.2.2 (w.heap.size+1) 2 (by omega)).trans XA.2.2.1),pZc ((XB.2.2.2.2 (w.heap.size+1) 3 (by omega)).trans XA.2.2.2.1),pZc (XB.1),pZc (XB.2.1),pZc (XB.2.2.1),pZc (XB.2.2.2.1)⟩ (fun wf hwf=>?_)
  clear XA XB;obtain ⟨hBf,z0,z1,z2,z3,z4,z5,z6,z7⟩:=hwf
  exact bodyPost_ret (v:=.tuple #[.agg #[.int .i64 (x+(u-mn n u)),.int .i64 (y),.int .i64 (mn n u),.int .i64 (v)],.agg #[.int .i64 (x),.int .i64 (y),.int .i64 (u-mn n u),.int .i64 (v)]]) (by simp only [results,Tryz.results251];go_simp) rfl ⟨rfl,(by repeat (first | with_reducible exact Below.refl _ _ | with_reducible assumption | with_reducible refine jZd ?_|(with_reducible refine bset ?_ ?_;rotate_left;((try dsimp only);omega)) | refine jZa ?_ (by assumption) | with_reducible refine Below.drew ?_))⟩
theorem cut0_w (x y u v n:Int) (w:World) (h1:vrW x y u v=true) (h2:0≤n) :
  Calls Tryz.prog 245 #[.agg #[.int .i64 (x),.int .i64 (y),.int .i64 (u),.int .i64 (v)],.int .i64 0,.int .i64 n] w fun e w'=>e=.returned (.tuple #[.agg #[.int .i64 (x),.int .i64 (y),.int .i64 (u),.int .i64 (mn n v)],.agg #[.int .i64 (x),.int .i64 (y+mn n v),.int .i64 (u),.int .i64 (v-mn n v)]])∧Below w.heap.size w w':=by
 have i0:∀ w,(Instr.index 245 (.agg #[.func (.func 248) #[] #[],.func (.func 249) #[] #[],.func (.func 250) #[] #[],.func (.func 251) #[] #[]]) (.int .i64 0)).run Tryz.prog w=.ok (.func (.func 248) #[] #[]) w:=fun _=>by kernel_rfl
 go_enter Tryz.func245,Tryz.ntmps245
 go_wp2_with fail
 refine jZg 8 2 (·<8) (by kernel_rfl) (by kernel_rfl) rfl ?_
 iterate 8 (refine jZ3 (fun K hK=>?_);apply Exists.intro;refine ⟨.inl ⟨rfl,fun w' hw'=>?_⟩,?_⟩;(focus ((obtain ⟨hc,hf⟩:=kZi hw'.out);(have hcS:=kZq hw'.out);go_simp <;> first | rfl|(go_at_call 247;exact sZr _)|(go_at_call 248;exact cutTop_w x y u v n (mn n v) (v-mn n v) _ h1 h2 rfl rfl)));(go_simp;refine hK _ ?_;clear hK K))
 refine jZ9 ?_;refine jZ1 (by kernel_rfl) (fun wt1 ht1=>?_);obtain ⟨hct1,hft1⟩:=kZi ht1.out
 have kb0_0:wt1.cell? ⟨w.heap.size+1,0,none⟩=some (.int .i64 (0)):=by go_simp
 have kg0_0:wt1.frozen? ⟨w.heap.size+1,0,none⟩=false:=by go_simp
 have kb0_1:wt1.cell? ⟨w.heap.size+1,1,none⟩=some (.int .i64 (0)):=by go_simp
 have kg0_1:wt1.frozen? ⟨w.heap.size+1,1,none⟩=false:=by go_simp
 have kb0_2:wt1.cell? ⟨w.heap.size+1,2,none⟩=some (.int .i64 (0)):=by go_simp
 have kg0_2:wt1.frozen? ⟨w.heap.size+1,2,none⟩=false:=by go_simp
 have kb0_3:wt1.cell? ⟨w.heap.size+1,3,none⟩=some (.int .i64 (0)):=by go_simp
 have kg0_3:wt1.frozen? ⟨w.heap.size+1,3,none⟩=false:=by go_simp
 have kb1_0:wt1.cell? ⟨w.heap.size+1+1,0,none⟩=some (.int .i64 (0)):=by go_simp
 have kg1_0:wt1.frozen? ⟨w.heap.size+1+1,0,none⟩=false:=by go_simp
 have kb1_1:wt1.cell? ⟨w.heap.size+1+1,1,none⟩=some (.int .i64 (0)):=by go_simp
 have kg1_1:wt1.frozen? ⟨w.heap.size+1+1,1,none⟩=false:=by go_simp
 have kb1_2:wt1.cell? ⟨w.heap.size+1+1,2,none⟩=some (.int .i64 (0)):=by go_simp
 have kg1_2:wt1.frozen? ⟨w.heap.size+1+1,2,none⟩=false:=by go_simp
 have kb1_3:wt1.cell? ⟨w.heap.size+1+1,3,none⟩=some (.int .i64 (0)):=by go_simp
 have kg1_3:wt1.frozen? ⟨w.heap.size+1+1,3,none⟩=false:=by go_simp
 clear hct1 hft1;refine jZn (i:=8) (by kernel_rfl) rfl rfl ?_;go_simp;refine jZn (i:=9) (by kernel_rfl) rfl rfl ?_;go_simp;refine jZq (by kernel_rfl) ?_;have XA:=box4 (w:=wt1) (b:=w.heap.size+1) (.int .i64 (x)) (.int .i64 (y)) (.int .i64 (u)) (.int .i64 (mn n v)) kb0_0 kb0_1 kb0_2 kb0_3
 have XB:=box4 (b:=w.heap.size+1+1) (.int .i64 (x)) (.int .i64 (y+mn n v)) (.int .i64 (u)) (.int .i64 (v-mn n v)) ((XA.2.2.2.2 (w.heap.size+1+1) 0 (by omega)).trans kb1_0) ((XA.2.2.2.2 (w.heap.size+1+1) 1 (by omega)).trans kb1_1) ((XA.2.2.2.2 (w.heap.size+1+1) 2 (by omega)).trans kb1_2) ((XA.2.2.2.2 (w.heap.size+1+1) 3 (by omega)).trans kb1_3)
 refine kZ0.gen (fun wf=>Below w.heap.size w wf∧wf.cell? ⟨w.heap.size+1,0,none⟩=some (.int .i64 (x))∧wf.cell? ⟨w.heap.size+1,1,none⟩=some (.int .i64 (y))∧wf.cell? ⟨w.heap.size+1,2,none⟩=some (.int .i64 (u))∧wf.cell? ⟨w.heap.size+1,3,none⟩=some (.int .i64 (mn n v))∧wf.cell? ⟨w.heap.size+1+1,0,none⟩=some (.int .i64 (x))∧wf.cell? ⟨w.heap.size+1+1,1,none⟩=some (.int .i64 (y+mn n v))∧wf.cell? ⟨w.heap.size+1+1,2,none⟩=some (.int .i64 (u))∧wf.cell? ⟨w.heap.size+1+1,3,none⟩=some (.int .i64 (v-mn n v))) ⟨(by repeat (first | with_reducible exact Below.refl _ _ | with_reducible assumption | with_reducible refine jZd ?_|(with_reducible refine bset ?_ ?_;rotate_left;((try dsimp only);omega)) | refine jZa ?_ (by assumption) | with_reducible refine Below.drew ?_)),(XB.2.2.2.2 (w.heap.size+1) 0 (by omega)).trans XA.1,(XB.2.2.2.2 (w.heap.size+1) 1 (by omega)).trans XA.2.1,(XB.2.2.2.2 (w.heap.size+1) 2 (by omega)).trans XA.2.2.1,(XB.2.2.2.2 (w.heap.size+1) 3 (by omega)).trans XA.2.2.2.1,XB.1,XB.2.1,XB.2.2.1,XB.2.2.2.1⟩ (fun wf hwf=>?_)
 clear XA XB kb0_0 kb0_1 kb0_2 kb0_3 kb1_0 kb1_1 kb1_2 kb1_3 kg0_0 kg0_1 kg0_2 kg0_3 kg1_0 kg1_1 kg1_2 kg1_3;obtain ⟨hBf,z0,z1,z2,z3,z4,z5,z6,z7⟩:=hwf;go_wp2
 exact bodyPost_ret (v:=.tuple #[.agg #[.int .i64 (x),.int .i64 (y),.int .i64 (u),.int .i64 (mn n v)],.agg #[.int .i64 (x),.int .i64 (y+mn n v),.int .i64 (u),.int .i64 (v-mn n v)]]) (by simp only [results,Tryz.results245];go_simp) rfl ⟨rfl,(by repeat (first | with_reducible exact Below.refl _ _ | with_reducible assumption | with_reducible refine jZd ?_|(with_reducible refine bset ?_ ?_;rotate_left;((try dsimp only);omega)) | refine jZa ?_ (by assumption) | with_reducible refine Below.drew ?_))⟩
theorem cut1_w (x y u v n:Int) (w:World) (h1:vrW x y u v=true) (h2:0≤n) :
  Calls Tryz.prog 245 #[.agg #[.int .i64 (x),.int .i64 (y),.int .i64 (u),.int .i64 (v)],.int .i64 1,.int .i64 n] w fun e w'=>e=.returned (.tuple #[.agg #[.int .i64 (x),.int .i64 (y+(v-mn n v)),.int .i64 (u),.int .i64 (mn n v)],.agg #[.int .i64 (x),.int .i64 (y),.int .i64 (u),.int .i64 (v-mn n v)]])∧Below w.heap.size w w':=by
 have i0:∀ w,(Instr.index 245 (.agg #[.func (.func 248) #[] #[],.func (.func 249) #[] #[],.func (.func 250) #[] #[],.func (.func 251) #[] #[]]) (.int .i64 1)).run Tryz.prog w=.ok (.func (.func 249) #[] #[]) w:=fun _=>by kernel_rfl
 go_enter Tryz.func245,Tryz.ntmps245
 go_wp2_with fail
 refine jZg 8 2 (·<8) (by kernel_rfl) (by kernel_rfl) rfl ?_
 iterate 8 (refine jZ3 (fun K hK=>?_);apply Exists.intro;refine ⟨.inl ⟨rfl,fun w' hw'=>?_⟩,?_⟩;(focus ((obtain ⟨hc,hf⟩:=kZi hw'.out);(have hcS:=kZq hw'.out);go_simp <;> first | rfl|(go_at_call 247;exact sZr _)|(go_at_call 249;exact hZh x y u v n _ h1 h2)));(go_simp;refine hK _ ?_;clear hK K))
 refine jZ9 ?_;refine jZ1 (by kernel_rfl) (fun wt1 ht1=>?_);obtain ⟨hct1,hft1⟩:=kZi ht1.out
 have kb0_0:wt1.cell? ⟨w.heap.size+1,0,none⟩=some (.int .i64 (0)):=by go_simp
 have kg0_0:wt1.frozen? ⟨w.heap.size+1,0,none⟩=false:=by go_simp
 have kb0_1:wt1.cell? ⟨w.heap.size+1,1,none⟩=some (.int .i64 (0)):=by go_simp
 have kg0_1:wt1.frozen? ⟨w.heap.size+1,1,none⟩=false:=by go_simp
 have kb0_2:wt1.cell? ⟨w.heap.size+1,2,none⟩=some (.int .i64 (0)):=by go_simp
 have kg0_2:wt1.frozen? ⟨w.heap.size+1,2,none⟩=false:=by go_simp
 have kb0_3:wt1.cell? ⟨w.heap.size+1,3,none⟩=some (.int .i64 (0)):=by go_simp
 have kg0_3:wt1.frozen? ⟨w.heap.size+1,3,none⟩=false:=by go_simp
 have kb1_0:wt1.cell? ⟨w.heap.size+1+1,0,none⟩=some (.int .i64 (0)):=by go_simp
 have kg1_0:wt1.frozen? ⟨w.heap.size+1+1,0,none⟩=false:=by go_simp
 have kb1_1:wt1.cell? ⟨w.heap.size+1+1,1,none⟩=some (.int .i64 (0)):=by go_simp
 have kg1_1:wt1.frozen? ⟨w.heap.size+1+1,1,none⟩=false:=by go_simp
 have kb1_2:wt1.cell? ⟨w.heap.size+1+1,2,none⟩=some (.int .i64 (0)):=by go_simp
 have kg1_2:wt1.frozen? ⟨w.heap.size+1+1,2,none⟩=false:=by go_simp
 have kb1_3:wt1.cell? ⟨w.heap.size+1+1,3,none⟩=some (.int .i64 (0)):=by go_simp
 have kg1_3:wt1.frozen? ⟨w.heap.size+1+1,3,none⟩=false:=by go_simp
 clear hct1 hft1;refine jZn (i:=8) (by kernel_rfl) rfl rfl ?_;go_simp;refine jZn (i:=9) (by kernel_rfl) rfl rfl ?_;go_simp;refine jZq (by kernel_rfl) ?_;have XA:=box4 (w:=wt1) (b:=w.heap.size+1) (.int .i64 (x)) (.int .i64 (y+(v-mn n v))) (.int .i64 (u)) (.int .i64 (mn n v)) kb0_0 kb0_1 kb0_2 kb0_3
 have XB:=box4 (b:=w.heap.size+1+1) (.int .i64 (x)) (.int .i64 (y)) (.int .i64 (u)) (.int .i64 (v-mn n v)) ((XA.2.2.2.2 (w.heap.size+1+1) 0 (by omega)).trans kb1_0) ((XA.2.2.2.2 (w.heap.size+1+1) 1 (by omega)).trans kb1_1) ((XA.2.2.2.2 (w.heap.size+1+1) 2 (by omega)).trans kb1_2) ((XA.2.2.2.2 (w.heap.size+1+1) 3 (by omega)).trans kb1_3)
 refine kZ0.gen (fun wf=>Below w.heap.size w wf∧wf.cell? ⟨w.heap.size+1,0,none⟩=some (.int .i64 (x))∧wf.cell? ⟨w.heap.size+1,1,none⟩=some (.int .i64 (y+(v-mn n v)))∧wf.cell? ⟨w.heap.size+1,2,none⟩=some (.int .i64 (u))∧wf.cell? ⟨w.heap.size+1,3,none⟩=some (.int .i64 (mn n v))∧wf.cell? ⟨w.heap.size+1+1,0,none⟩=some (.int .i64 (x))∧wf.cell? ⟨w.heap.size+1+1,1,none⟩=some (.int .i64 (y))∧wf.cell? ⟨w.heap.size+1+1,2,none⟩=some (.int .i64 (u))∧wf.cell? ⟨w.heap.size+1+1,3,none⟩=some (.int .i64 (v-mn n v))) ⟨(by repeat (first | with_reducible exact Below.refl _ _ | with_reducible assumption | with_reducible refine jZd ?_|(with_reducible refine bset ?_ ?_;rotate_left;((try dsimp only);omega)) | refine jZa ?_ (by assumption) | with_reducible refine Below.drew ?_)),(XB.2.2.2.2 (w.heap.size+1) 0 (by omega)).trans XA.1,(XB.2.2.2.2 (w.heap.size+1) 1 (by omega)).trans XA.2.1,(XB.2.2.2.2 (w.heap.size+1) 2 (by omega)).trans XA.2.2.1,(XB.2.2.2.2 (w.heap.size+1) 3 (by omega)).trans XA.2.2.2.1,XB.1,XB.2.1,XB.2.2.1,XB.2.2.2.1⟩ (fun wf hwf=>?_)
 clear XA XB kb0_0 kb0_1 kb0_2 kb0_3 kb1_0 kb1_1 kb1_2 kb1_3 kg0_0 kg0_1 kg0_2 kg0_3 kg1_0 kg1_1 kg1_2 kg1_3;obtain ⟨hBf,z0,z1,z2,z3,z4,z5,z6,z7⟩:=hwf;go_wp2
 exact bodyPost_ret (v:=.tuple #[.agg #[.int .i64 (x),.int .i64 (y+(v-mn n v)),.int .i64 (u),.int .i64 (mn n v)],.agg #[.int .i64 (x),.int .i64 (y),.int .i64 (u),.int .i64 (v-mn n v)]]) (by simp only [results,Tryz.results245];go_simp) rfl ⟨rfl,(by repeat (first | with_reducible exact Below.refl _ _ | with_reducible assumption | with_reducible refine jZd ?_|(with_reducible refine bset ?_ ?_;rotate_left;((try dsimp only);omega)) | refine jZa ?_ (by assumption) | with_reducible refine Below.drew ?_))⟩
theorem cut2_w (x y u v n:Int) (w:World) (h1:vrW x y u v=true) (h2:0≤n) :
  Calls Tryz.prog 245 #[.agg #[.int .i64 (x),.int .i64 (y),.int .i64 (u),.int .i64 (v)],.int .i64 2,.int .i64 n] w fun e w'=>e=.returned (.tuple #[.agg #[.int .i64 (x),.int .i64 (y),.int .i64 (mn n u),.int .i64 (v)],.agg #[.int .i64 (x+mn n u),.int .i64 (y),.int .i64 (u-mn n u),.int .i64 (v)]])∧Below w.heap.size w w':=by
 have i0:∀ w,(Instr.index 245 (.agg #[.func (.func 248) #[] #[],.func (.func 249) #[] #[],.func (.func 250) #[] #[],.func (.func 251) #[] #[]]) (.int .i64 2)).run Tryz.prog w=.ok (.func (.func 250) #[] #[]) w:=fun _=>by kernel_rfl
 go_enter Tryz.func245,Tryz.ntmps245
 go_wp2_with fail
 refine jZg 8 2 (·<8) (by kernel_rfl) (by kernel_rfl) rfl ?_
 iterate 8 (refine jZ3 (fun K hK=>?_);apply Exists.intro;refine ⟨.inl ⟨rfl,fun w' hw'=>?_⟩,?_⟩;(focus ((obtain ⟨hc,hf⟩:=kZi hw'.out);(have hcS:=kZq hw'.out);go_simp <;> first | rfl|(go_at_call 247;exact sZr _)|(go_at_call 250;exact fZ4 x y u v n (mn n u) (u-mn n u) _ h1 h2 rfl rfl)));(go_simp;refine hK _ ?_;clear hK K))
 refine jZ9 ?_;refine jZ1 (by kernel_rfl) (fun wt1 ht1=>?_);obtain ⟨hct1,hft1⟩:=kZi ht1.out
 have kb0_0:wt1.cell? ⟨w.heap.size+1,0,none⟩=some (.int .i64 (0)):=by go_simp
 have kg0_0:wt1.frozen? ⟨w.heap.size+1,0,none⟩=false:=by go_simp
 have kb0_1:wt1.cell? ⟨w.heap.size+1,1,none⟩=some (.int .i64 (0)):=by go_simp
 have kg0_1:wt1.frozen? ⟨w.heap.size+1,1,none⟩=false:=by go_simp
 have kb0_2:wt1.cell? ⟨w.heap.size+1,2,none⟩=some (.int .i64 (0)):=by go_simp
 have kg0_2:wt1.frozen? ⟨w.heap.size+1,2,none⟩=false:=by go_simp
 have kb0_3:wt1.cell? ⟨w.heap.size+1,3,none⟩=some (.int .i64 (0)):=by go_simp
 have kg0_3:wt1.frozen? ⟨w.heap.size+1,3,none⟩=false:=by go_simp
 have kb1_0:wt1.cell? ⟨w.heap.size+1+1,0,none⟩=some (.int .i64 (0)):=by go_simp
 have kg1_0:wt1.frozen? ⟨w.heap.size+1+1,0,none⟩=false:=by go_simp
 have kb1_1:wt1.cell? ⟨w.heap.size+1+1,1,none⟩=some (.int .i64 (0)):=by go_simp
 have kg1_1:wt1.frozen? ⟨w.heap.size+1+1,1,none⟩=false:=by go_simp
 have kb1_2:wt1.cell? ⟨w.heap.size+1+1,2,none⟩=some (.int .i64 (0)):=by go_simp
 have kg1_2:wt1.frozen? ⟨w.heap.size+1+1,2,none⟩=false:=by go_simp
 have kb1_3:wt1.cell? ⟨w.heap.size+1+1,3,none⟩=some (.int .i64 (0)):=by go_simp
 have kg1_3:wt1.frozen? ⟨w.heap.size+1+1,3,none⟩=false:=by go_simp
 clear hct1 hft1;refine jZn (i:=8) (by kernel_rfl) rfl rfl ?_;go_simp;refine jZn (i:=9) (by kernel_rfl) rfl rfl ?_;go_simp;refine jZq (by kernel_rfl) ?_;have XA:=box4 (w:=wt1) (b:=w.heap.size+1) (.int .i64 (x)) (.int .i64 (y)) (.int .i64 (mn n u)) (.int .i64 (v)) kb0_0 kb0_1 kb0_2 kb0_3
 have XB:=box4 (b:=w.heap.size+1+1) (.int .i64 (x+mn n u)) (.int .i64 (y)) (.int .i64 (u-mn n u)) (.int .i64 (v)) ((XA.2.2.2.2 (w.heap.size+1+1) 0 (by omega)).trans kb1_0) ((XA.2.2.2.2 (w.heap.size+1+1) 1 (by omega)).trans kb1_1) ((XA.2.2.2.2 (w.heap.size+1+1) 2 (by omega)).trans kb1_2) ((XA.2.2.2.2 (w.heap.size+1+1) 3 (by omega)).trans kb1_3)
 refine kZ0.gen (fun wf=>Below w.heap.size w wf∧wf.cell? ⟨w.heap.size+1,0,none⟩=some (.int .i64 (x))∧wf.cell? ⟨w.heap.size+1,1,none⟩=some (.int .i64 (y))∧wf.cell? ⟨w.heap.size+1,2,none⟩=some (.int .i64 (mn n u))∧wf.cell? ⟨w.heap.size+1,3,none⟩=some (.int .i64 (v))∧wf.cell? ⟨w.heap.size+1+1,0,none⟩=some (.int .i64 (x+mn n u))∧wf.cell? ⟨w.heap.size+1+1,1,none⟩=some (.int .i64 (y))∧wf.cell? ⟨w.heap.size+1+1,2,none⟩=some (.int .i64 (u-mn n u))∧wf.cell? ⟨w.heap.size+1+1,3,none⟩=some (.int .i64 (v))) ⟨(by repeat (first | with_reducible exact Below.refl _ _ | with_reducible assumption | with_reducible refine jZd ?_|(with_reducible refine bset ?_ ?_;rotate_left;((try dsimp only);omega)) | refine jZa ?_ (by assumption) | with_reducible refine Below.drew ?_)),(XB.2.2.2.2 (w.heap.size+1) 0 (by omega)).trans XA.1,(XB.2.2.2.2 (w.heap.size+1) 1 (by omega)).trans XA.2.1,(XB.2.2.2.2 (w.heap.size+1) 2 (by omega)).trans XA.2.2.1,(XB.2.2.2.2 (w.heap.size+1) 3 (by omega)).trans XA.2.2.2.1,XB.1,XB.2.1,XB.2.2.1,XB.2.2.2.1⟩ (fun wf hwf=>?_)
 clear XA XB kb0_0 kb0_1 kb0_2 kb0_3 kb1_0 kb1_1 kb1_2 kb1_3 kg0_0 kg0_1 kg0_2 kg0_3 kg1_0 kg1_1 kg1_2 kg1_3;obtain ⟨hBf,z0,z1,z2,z3,z4,z5,z6,z7⟩:=hwf;go_wp2
 exact bodyPost_ret (v:=.tuple #[.agg #[.int .i64 (x),.int .i64 (y),.int .i64 (mn n u),.int .i64 (v)],.agg #[.int .i64 (x+mn n u),.int .i64 (y),.int .i64 (u-mn n u),.int .i64 (v)]]) (by simp only [results,Tryz.results245];go_simp) rfl ⟨rfl,(by repeat (first | with_reducible exact Below.refl _ _ | with_reducible assumption | with_reducible refine jZd ?_|(with_reducible refine bset ?_ ?_;rotate_left;((try dsimp only);omega)) | refine jZa ?_ (by assumption) | with_reducible refine Below.drew ?_))⟩
theorem cut3_w (x y u v n:Int) (w:World) (h1:vrW x y u v=true) (h2:0≤n) :
  Calls Tryz.prog 245 #[.agg #[.int .i64 (x),.int .i64 (y),.int .i64 (u),.int .i64 (v)],.int .i64 3,.int .i64 n] w fun e w'=>e=.returned (.tuple #[.agg #[.int .i64 (x+(u-mn n u)),.int .i64 (y),.int .i64 (mn n u),.int .i64 (v)],.agg #[.int .i64 (x),.int .i64 (y),.int .i64 (u-mn n u),.int .i64 (v)]])∧Below w.heap.size w w':=by
 have i0:∀ w,(Instr.index 245 (.agg #[.func (.func 248) #[] #[],.func (.func 249) #[] #[],.func (.func 250) #[] #[],.func (.func 251) #[] #[]]) (.int .i64 3)).run Tryz.prog w=.ok (.func (.func 251) #[] #[]) w:=fun _=>by kernel_rfl
 go_enter Tryz.func245,Tryz.ntmps245
 go_wp2_with fail
 refine jZg 8 2 (·<8) (by kernel_rfl) (by kernel_rfl) rfl ?_
 iterate 8 (refine jZ3 (fun K hK=>?_);apply Exists.intro;refine ⟨.inl ⟨rfl,fun w' hw'=>?_⟩,?_⟩;(focus ((obtain ⟨hc,hf⟩:=kZi hw'.out);(have hcS:=kZq hw'.out);go_simp <;> first | rfl|(go_at_call 247;exact sZr _)|(go_at_call 251;exact cutRight_w x y u v n _ h1 h2)));(go_simp;refine hK _ ?_;clear hK K))
 refine jZ9 ?_;refine jZ1 (by kernel_rfl) (fun wt1 ht1=>?_);obtain ⟨hct1,hft1⟩:=kZi ht1.out
 have kb0_0:wt1.cell? ⟨w.heap.size+1,0,none⟩=some (.int .i64 (0)):=by go_simp
 have kg0_0:wt1.frozen? ⟨w.heap.size+1,0,none⟩=false:=by go_simp
 have kb0_1:wt1.cell? ⟨w.heap.size+1,1,none⟩=some (.int .i64 (0)):=by go_simp
 have kg0_1:wt1.frozen? ⟨w.heap.size+1,1,none⟩=false:=by go_simp
 have kb0_2:wt1.cell? ⟨w.heap.size+1,2,none⟩=some (.int .i64 (0)):=by go_simp
 have kg0_2:wt1.frozen? ⟨w.heap.size+1,2,none⟩=false:=by go_simp
 have kb0_3:wt1.cell? ⟨w.heap.size+1,3,none⟩=some (.int .i64 (0)):=by go_simp
 have kg0_3:wt1.frozen? ⟨w.heap.size+1,3,none⟩=false:=by go_simp
 have kb1_0:wt1.cell? ⟨w.heap.size+1+1,0,none⟩=some (.int .i64 (0)):=by go_simp
 have kg1_0:wt1.frozen? ⟨w.heap.size+1+1,0,none⟩=false:=by go_simp
 have kb1_1:wt1.cell? ⟨w.heap.size+1+1,1,none⟩=some (.int .i64 (0)):=by go_simp
 have kg1_1:wt1.frozen? ⟨w.heap.size+1+1,1,none⟩=false:=by go_simp
 have kb1_2:wt1.cell? ⟨w.heap.size+1+1,2,none⟩=some (.int .i64 (0)):=by go_simp
 have kg1_2:wt1.frozen? ⟨w.heap.size+1+1,2,none⟩=false:=by go_simp
 have kb1_3:wt1.cell? ⟨w.heap.size+1+1,3,none⟩=some (.int .i64 (0)):=by go_simp
 have kg1_3:wt1.frozen? ⟨w.heap.size+1+1,3,none⟩=false:=by go_simp
 clear hct1 hft1;refine jZn (i:=8) (by kernel_rfl) rfl rfl ?_;go_simp;refine jZn (i:=9) (by kernel_rfl) rfl rfl ?_;go_simp;refine jZq (by kernel_rfl) ?_;have XA:=box4 (w:=wt1) (b:=w.heap.size+1) (.int .i64 (x+(u-mn n u))) (.int .i64 (y)) (.int .i64 (mn n u)) (.int .i64 (v)) kb0_0 kb0_1 kb0_2 kb0_3
 have XB:=box4 (b:=w.heap.size+1+1) (.int .i64 (x)) (.int .i64 (y)) (.int .i64 (u-mn n u)) (.int .i64 (v)) ((XA.2.2.2.2 (w.heap.size+1+1) 0 (by omega)).trans kb1_0) ((XA.2.2.2.2 (w.heap.size+1+1) 1 (by omega)).trans kb1_1) ((XA.2.2.2.2 (w.heap.size+1+1) 2 (by omega)).trans kb1_2) ((XA.2.2.2.2 (w.heap.size+1+1) 3 (by omega)).trans kb1_3)
 refine kZ0.gen (fun wf=>Below w.heap.size w wf∧wf.cell? ⟨w.heap.size+1,0,none⟩=some (.int .i64 (x+(u-mn n u)))∧wf.cell? ⟨w.heap.size+1,1,none⟩=some (.int .i64 (y))∧wf.cell? ⟨w.heap.size+1,2,none⟩=some (.int .i64 (mn n u))∧wf.cell? ⟨w.heap.size+1,3,none⟩=some (.int .i64 (v))∧wf.cell? ⟨w.heap.size+1+1,0,none⟩=some (.int .i64 (x))∧wf.cell? ⟨w.heap.size+1+1,1,none⟩=some (.int .i64 (y))∧wf.cell? ⟨w.heap.size+1+1,2,none⟩=some (.int .i64 (u-mn n u))∧wf.cell? ⟨w.heap.size+1+1,3,none⟩=some (.int .i64 (v))) ⟨(by repeat (first | with_reducible exact Below.refl _ _ | with_reducible assumption | with_reducible refine jZd ?_|(with_reducible refine bset ?_ ?_;rotate_left;((try dsimp only);omega)) | refine jZa ?_ (by assumption) | with_reducible refine Below.drew ?_)),(XB.2.2.2.2 (w.heap.size+1) 0 (by omega)).trans XA.1,(XB.2.2.2.2 (w.heap.size+1) 1 (by omega)).trans XA.2.1,(XB.2.2.2.2 (w.heap.size+1) 2 (by omega)).trans XA.2.2.1,(XB.2.2.2.2 (w.heap.size+1) 3 (by omega)).trans XA.2.2.2.1,XB.1,XB.2.1,XB.2.2.1,XB.2.2.2.1⟩ (fun wf hwf=>?_)
 clear XA XB kb0_0 kb0_1 kb0_2 kb0_3 kb1_0 kb1_1 kb1_2 kb1_3 kg0_0 kg0_1 kg0_2 kg0_3 kg1_0 kg1_1 kg1_2 kg1_3;obtain ⟨hBf,z0,z1,z2,z3,z4,z5,z6,z7⟩:=hwf;go_wp2
 exact bodyPost_ret (v:=.tuple #[.agg #[.int .i64 (x+(u-mn n u)),.int .i64 (y),.int .i64 (mn n u),.int .i64 (v)],.agg #[.int .i64 (x),.int .i64 (y),.int .i64 (u-mn n u),.int .i64 (v)]]) (by simp only [results,Tryz.results245];go_simp) rfl ⟨rfl,(by repeat (first | with_reducible exact Below.refl _ _ | with_reducible assumption | with_reducible refine jZd ?_|(with_reducible refine bset ?_ ?_;rotate_left;((try dsimp only);omega)) | refine jZa ?_ (by assumption) | with_reducible refine Below.drew ?_))⟩
end
end Go.Proofs.YtfnpdlnepjhljaaGreat
