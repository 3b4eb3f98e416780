import Derived.Test.YtpbfbcdidkbjiadQ03
section
namespace Go.Proofs.Ytpbfbcdidkbjiad
open Go.RowKit
set_option linter.unusedVariables false
set_option maxHeartbeats 1000000
attribute [local go_sem 5000] run_mx run_mn
attribute [local go_sem] growUpon_value growUpon_skip growUpon_enter
theorem newV2 (w : World) (o o' o2 : Obj) : (((w.alloc o).alloc o').alloc o2).heap[w.heap.size + 1 + 1]? = some o2 := by
  have := newV1 (w.alloc o) o' o2; rwa [World.size_alloc] at this
set_option maxRecDepth 100000 in
theorem ThumbOf_no (t p f : Int) (w : World) (h : vwB t p f = false) : Calls Try.prog 15 #[.agg #[.int .i64 (t), .int .i64 (p), .int .i64 (f)]] w fun e w' => e = .returned (.tuple #[.int .i64 (-1), .int .i64 (-1)]) ∧ Below w.heap.size w w' := by
  go_enter Try.func15, Try.ntmps15
  go_wp2_with fail
  with_reducible refine (ValidView_v _ _ _ false _ h).mono ?_
  rintro e w1 ⟨rfl, hb⟩
  have HX := Lib.hid ((hb.block _ (ltV (newV w (.cells #[.int .i64 (t), .int .i64 (p), .int .i64 (f)] 24 (0, 0))))).trans (newV w (.cells #[.int .i64 (t), .int .i64 (p), .int .i64 (f)] 24 (0, 0))))
  have HB := Lib.hid (bkeep2 (balloc (Below.refl _ _)) hb)
  clear hb
  obtain ⟨c0, c1, c2⟩ := c3V HX.out
  go_wp2
  go_ret2
  exact ⟨rfl, HB.out⟩
set_option maxRecDepth 100000 in
theorem ThumbOf_zero (t p f : Int) (w : World) (h : vwB t p f = true) (h0 : t = 0) : Calls Try.prog 15 #[.agg #[.int .i64 (t), .int .i64 (p), .int .i64 (f)]] w fun e w' => e = .returned (.tuple #[.int .i64 0, .int .i64 1000]) ∧ Below w.heap.size w w' := by
  have q2 := Lib.hid (show (t == 0) = true by simpa using h0)
  clear h0
  go_enter Try.func15, Try.ntmps15
  go_wp2_with fail
  with_reducible refine (ValidView_v _ _ _ true _ h).mono ?_
  rintro e w1 ⟨rfl, hb⟩
  have HX := Lib.hid ((hb.block _ (ltV (newV w (.cells #[.int .i64 (t), .int .i64 (p), .int .i64 (f)] 24 (0, 0))))).trans (newV w (.cells #[.int .i64 (t), .int .i64 (p), .int .i64 (f)] 24 (0, 0))))
  have HB := Lib.hid (bkeep2 (balloc (Below.refl _ _)) hb)
  clear hb
  obtain ⟨c0, c1, c2⟩ := c3V HX.out
  replace q2 := q2.out
  go_wp2
  go_ret2
  exact ⟨rfl, HB.out⟩
set_option maxRecDepth 100000 in
theorem ThumbOf_yes (t p f : Int) (w : World) (h : vwB t p f = true) (h0 : 1 ≤ t) : Calls Try.prog 15 #[.agg #[.int .i64 (t), .int .i64 (p), .int .i64 (f)]] w fun e w' => e = .returned (.tuple #[.int .i64 (thA t f), .int .i64 (thB t p f)]) ∧ Below w.heap.size w w' := by
  have g1 := vwB_iff.1 h
  have k1 : -1000 ≤ t ∧ t ≤ 1000 := by omega
  have k2 : -1000 ≤ p ∧ p ≤ 1000 := by omega
  have g3 := enV_spec t p
  obtain ⟨⟨g11, g12⟩, ⟨g13, g14⟩, g15⟩ := g1
  have g4 : 0 ≤ f := by omega
  have g5 : f ≤ 500 := by omega
  have gm := mn_spec (f + p) t
  have e1 : mn t (f + p) = mn (f + p) t := mn_comm _ _
  have gm1 : 0 ≤ mn (f + p) t := by omega
  have gm2 : mn (f + p) t ≤ 500 := by omega
  have gm3 : mn (f + p) t ≤ t := by omega
  have g16 : f ≤ t := by omega
  clear g15 gm g3
  have q1 : ¬ t = 0 := by omega
  have q2 : (t == 0) = false := by simpa using q1
  have wm : IntKind.i64.wrap (mn (f + p) t * 1000) = mn (f + p) t * 1000 := IntWalk.i64_in _ (by omega)
  have wf : IntKind.i64.wrap (f * 1000) = f * 1000 := IntWalk.i64_in _ (by omega)
  have tb1 := th_bd (t := t) (x := f) (by omega) (by omega) g16
  have tb2 := th_bd (t := t) (x := mn (f + p) t) (by omega) (by omega) gm3
  have wt1 : IntKind.i64.wrap ((f * 1000).tdiv t) = (f * 1000).tdiv t := IntWalk.i64_in _ (by omega)
  have wt2 : IntKind.i64.wrap ((mn (f + p) t * 1000).tdiv t) = (mn (f + p) t * 1000).tdiv t := IntWalk.i64_in _ (by omega)
  clear tb1 tb2 g16 gm3
  have wa : IntKind.i64.wrap (f + p) = f + p := IntWalk.i64_in _ (by omega)
  go_enter Try.func15, Try.ntmps15
  go_wp2_with fail
  with_reducible refine (ValidView_v _ _ _ true _ h).mono ?_
  rintro e w1 ⟨rfl, hb⟩
  have HX := Lib.hid ((hb.block _ (ltV (newV w (.cells #[.int .i64 (t), .int .i64 (p), .int .i64 (f)] 24 (0, 0))))).trans (newV w (.cells #[.int .i64 (t), .int .i64 (p), .int .i64 (f)] 24 (0, 0))))
  have HB := Lib.hid (bkeep2 (balloc (Below.refl _ _)) hb)
  clear hb
  obtain ⟨c0, c1, c2⟩ := c3V HX.out
  go_wp2_with fail
  refine wp_region_grow 20 0 (· < 20) (by kernel_rfl) (by kernel_rfl) rfl ?_
  iterate 20 (refine wpG_step (fun K hK => ?_); first | (refine grow_skip rfl ?_; go_simp; refine hK _ ?_; clear hK K) | (apply Exists.intro; refine ⟨.inl ⟨rfl, fun w' hw' => ?_⟩, ?_⟩; (focus ((obtain ⟨hc, hf⟩ := bcell hw'.out); (have hcS := bcellS hw'.out); go_simp <;> first | rfl | fail)); (go_simp; refine hK _ ?_; clear hK K)))
  refine wpG_nil ?_
  refine wpK_tail (by kernel_rfl) (fun w9 hg9 => ?_)
  have hb9 := bdrewn hg9.out
  refine wpAny_end (by kernel_rfl) ?_
  refine NoPan.thn ?_
  clear hg9
  go_wp2
  go_ret2
  exact ⟨rfl, bkeep2 HB.out hb9⟩
set_option maxRecDepth 100000 in
theorem sThumbOf_no (t p f : Int) (w : World) (h : vwB t p f = false) : Calls Try.prog 16 #[.agg #[.int .i64 (t), .int .i64 (p), .int .i64 (f)]] w fun e w' => e = .returned (.tuple #[.int .i64 (-1), .int .i64 (-1)]) ∧ Below w.heap.size w w' := by
  go_enter Try.func16, Try.ntmps16
  go_wp2_with fail
  with_reducible refine (svalidView_v _ _ _ false _ h).mono ?_
  rintro e w1 ⟨rfl, hb⟩
  have HX := Lib.hid ((hb.block _ (ltV (newV w (.cells #[.int .i64 (t), .int .i64 (p), .int .i64 (f)] 24 (0, 0))))).trans (newV w (.cells #[.int .i64 (t), .int .i64 (p), .int .i64 (f)] 24 (0, 0))))
  have HB := Lib.hid (bkeep2 (balloc (Below.refl _ _)) hb)
  clear hb
  obtain ⟨c0, c1, c2⟩ := c3V HX.out
  go_wp2
  go_ret2
  exact ⟨rfl, HB.out⟩
set_option maxRecDepth 100000 in
theorem sThumbOf_zero (t p f : Int) (w : World) (h : vwB t p f = true) (h0 : t = 0) : Calls Try.prog 16 #[.agg #[.int .i64 (t), .int .i64 (p), .int .i64 (f)]] w fun e w' => e = .returned (.tuple #[.int .i64 0, .int .i64 1000]) ∧ Below w.heap.size w w' := by
  have q2 := Lib.hid (show (t == 0) = true by simpa using h0)
  clear h0
  go_enter Try.func16, Try.ntmps16
  go_wp2_with fail
  with_reducible refine (svalidView_v _ _ _ true _ h).mono ?_
  rintro e w1 ⟨rfl, hb⟩
  have HX := Lib.hid ((hb.block _ (ltV (newV w (.cells #[.int .i64 (t), .int .i64 (p), .int .i64 (f)] 24 (0, 0))))).trans (newV w (.cells #[.int .i64 (t), .int .i64 (p), .int .i64 (f)] 24 (0, 0))))
  have HB := Lib.hid (bkeep2 (balloc (Below.refl _ _)) hb)
  clear hb
  obtain ⟨c0, c1, c2⟩ := c3V HX.out
  replace q2 := q2.out
  go_wp2
  go_ret2
  exact ⟨rfl, HB.out⟩
set_option maxRecDepth 100000 in
theorem sThumbOf_yes (t p f : Int) (w : World) (h : vwB t p f = true) (h0 : 1 ≤ t) : Calls Try.prog 16 #[.agg #[.int .i64 (t), .int .i64 (p), .int .i64 (f)]] w fun e w' => e = .returned (.tuple #[.int .i64 (thA t f), .int .i64 (thB t p f)]) ∧ Below w.heap.size w w' := by
  have g1 := vwB_iff.1 h
  have k1 : -1000 ≤ t ∧ t ≤ 1000 := by omega
  have k2 : -1000 ≤ p ∧ p ≤ 1000 := by omega
  have g3 := enV_spec t p
  obtain ⟨⟨g11, g12⟩, ⟨g13, g14⟩, g15⟩ := g1
  have g4 : 0 ≤ f := by omega
  have g5 : f ≤ 500 := by omega
  have gm := mn_spec (f + p) t
  have e1 : mn t (f + p) = mn (f + p) t := mn_comm _ _
  have gm1 : 0 ≤ mn (f + p) t := by omega
  have gm2 : mn (f + p) t ≤ 500 := by omega
  have gm3 : mn (f + p) t ≤ t := by omega
  have g16 : f ≤ t := by omega
  clear g15 gm g3
  have q1 : ¬ t = 0 := by omega
  have q2 : (t == 0) = false := by simpa using q1
  have wm : IntKind.i64.wrap (mn (f + p) t * 1000) = mn (f + p) t * 1000 := IntWalk.i64_in _ (by omega)
  have wf : IntKind.i64.wrap (f * 1000) = f * 1000 := IntWalk.i64_in _ (by omega)
  have tb1 := th_bd (t := t) (x := f) (by omega) (by omega) g16
  have tb2 := th_bd (t := t) (x := mn (f + p) t) (by omega) (by omega) gm3
  have wt1 : IntKind.i64.wrap ((f * 1000).tdiv t) = (f * 1000).tdiv t := IntWalk.i64_in _ (by omega)
  have wt2 : IntKind.i64.wrap ((mn (f + p) t * 1000).tdiv t) = (mn (f + p) t * 1000).tdiv t := IntWalk.i64_in _ (by omega)
  clear tb1 tb2 g16 gm3
  have wa : IntKind.i64.wrap (f + p) = f + p := IntWalk.i64_in _ (by omega)
  go_enter Try.func16, Try.ntmps16
  go_wp2_with fail
  with_reducible refine (svalidView_v _ _ _ true _ h).mono ?_
  rintro e w1 ⟨rfl, hb⟩
  have HX := Lib.hid ((hb.block _ (ltV (newV w (.cells #[.int .i64 (t), .int .i64 (p), .int .i64 (f)] 24 (0, 0))))).trans (newV w (.cells #[.int .i64 (t), .int .i64 (p), .int .i64 (f)] 24 (0, 0))))
  have HB := Lib.hid (bkeep2 (balloc (Below.refl _ _)) hb)
  clear hb
  obtain ⟨c0, c1, c2⟩ := c3V HX.out
  go_wp2_with fail
  refine wp_region_grow 20 0 (· < 20) (by kernel_rfl) (by kernel_rfl) rfl ?_
  iterate 20 (refine wpG_step (fun K hK => ?_); first | (refine grow_skip rfl ?_; go_simp; refine hK _ ?_; clear hK K) | (apply Exists.intro; refine ⟨.inl ⟨rfl, fun w' hw' => ?_⟩, ?_⟩; (focus ((obtain ⟨hc, hf⟩ := bcell hw'.out); (have hcS := bcellS hw'.out); go_simp <;> first | rfl | fail)); (go_simp; refine hK _ ?_; clear hK K)))
  refine wpG_nil ?_
  refine wpK_tail (by kernel_rfl) (fun w9 hg9 => ?_)
  have hb9 := bdrewn hg9.out
  refine wpAny_end (by kernel_rfl) ?_
  refine NoPan.thn ?_
  clear hg9
  go_wp2
  go_ret2
  exact ⟨rfl, bkeep2 HB.out hb9⟩
end Go.Proofs.Ytpbfbcdidkbjiad
end
