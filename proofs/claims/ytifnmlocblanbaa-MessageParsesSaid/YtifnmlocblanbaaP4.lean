/- The reader reads an element: on the canonical machine. -/
import Derived.Test.YtifnmlocblanbaaP3
set_option linter.unusedVariables false
set_option linter.unusedSimpArgs false
set_option linter.unusedSectionVars false

namespace Go.Proofs.Ytifnmlocblanbaa
open Go Go.AM
set_option maxRecDepth 10000
set_option linter.unusedSimpArgs false
set_option linter.unusedVariables false

theorem okT : ElemOk Try.prog #[29, 29] 9 1 := ⟨⟨29, 29, _, Try.t9, str [], rfl, rfl, Try.underlying29, Try.underlying29, rfl, by kernel_rfl, by kernel_rfl, by kernel_rfl, by kernel_rfl, of_decide_eq_true (by kernel_rfl)⟩, by omega⟩
theorem bsT (H : Heap) (l : Txt) : aBuildSlice Try.prog H 29 1 [(0, str l)] = some (.slice (some ⟨H.size, 0, none⟩) 1 1, H.newExact [str l] 9) := by kernel_rfl
theorem elemP_eq (l : Txt) : elemP l = if startsWith 58 (partP l).2 = true then ((partP l).1 :: (elemP (partP l).2.tail).1, (elemP (partP l).2.tail).2) else ([(partP l).1], (partP l).2) := by
  rw [elemP]
  split <;> rfl
theorem partP_fst : ∀ (n : Nat) (l : Txt), l.length ≤ n → (partP l).1.length ≤ l.length
  | _, [], _ => by simp [partP]
  | 0, c :: l, h => by simp at h
  | n + 1, c :: l, h => by
    unfold partP
    split
    · split
      · split
        · split
          · simp
          · rename_i d l'
            split
            · have := partP_fst n l' (by simp at h; omega)
              simp; omega
            · simp
        · simp
      · have := partP_fst n l (by simp at h; omega)
        simp; omega
    · simp
/-- The parts so far: a row of one's own with the first one, or a list that append has made. -/
def PL (L : Nat) (H : Heap) (v : Value) (ps : List Txt) : Prop :=
  (∃ r p, Own H r 9 [str p] ∧ L ≤ r ∧ ps = [p] ∧ p.length ≤ Go.maxLen ∧ v = .slice (some ⟨r, 0, none⟩) 1 1) ∨ LstG (txtE.from L) 9 L H v ps
theorem txt_at {L : Nat} {H : Heap} {p : Txt} (hp : p.length ≤ Go.maxLen) : (txtE.from L).At H p [str p] := Enc.from_of (stable_txt L) (show txtE.At H p [str p] from ⟨rfl, hp⟩)
theorem PL.keepX {x L : Nat} {H H' : Heap} {v : Value} {ps : List Txt} (h : PL L H v ps) (hx : x < L) (hk : KeepX x H H') : PL L H' v ps := by
  rcases h with ⟨r, p, ho, hr, h1, h2, h3⟩ | h
  · exact .inl ⟨r, p, Own.ge ho (Nat.lt_of_lt_of_le hx hr) hk.ge, hr, h1, h2, h3⟩
  · exact .inr (h.ge (Enc.from_stable _ _) (hk.ge.mono hx) hk.mem)
theorem PL.push {L : Nat} {H : Heap} {v : Value} {ps : List Txt} (hg : Grp H) (h : PL L H v ps) (hL : L ≤ H.size) (p : Txt) (hp : p.length ≤ Go.maxLen) (hs : ps.length + 1 ≤ 268435456) :
    ∃ v2 H2, aAppend Try.prog (H.newExact [str p] 9) #[29, 29] v (.slice (some ⟨H.size, 0, none⟩) 1 1) = some (v2, H2) ∧ PL L H2 v2 (ps ++ [p]) ∧ Grow L H H2 := by
  rcases h with ⟨r, q, ho, hr, rfl, h2, rfl⟩ | h
  · obtain ⟨v2, H2, a1, a2, a3⟩ := LstG.ofOwn (E := txtE.from L) (xs := [q]) okT hg ho (Chunks.one (txt_at h2)) (by simp) hL (txt_at (H := H) hp) hs 9
    exact ⟨v2, H2, a1, .inr a2, a3.growG L⟩
  · obtain ⟨v2, H2, a1, a2, a3⟩ := LstG.push okT (Stable.from0 txtE L) hg h hL (txt_at (H := H) hp) rfl hs 9
    exact ⟨v2, H2, a1, .inr a2, a3⟩
theorem PL.done {L : Nat} {H : Heap} {v : Value} {ps : List Txt} (h : PL L H v ps) (hm : ps.length ≤ Go.maxLen) : (elemE.from L).At H ps [v] := by
  rcases h with ⟨r, p, ho, hr, rfl, h2, rfl⟩ | h
  · refine slice_from_at (r := r) (o := 0) ⟨⟨_, _, rfl, fun _ => rfl⟩, fun i hi => ?_, fun _ => ho.lt, hm⟩ fun _ => hr
    obtain rfl : i = 0 := by simp at hi; omega
    have := ho.read (o := 0) (n := 1) (by simp)
    exact ⟨[str p], (show H.read r (0 + 0 * 1) 1 = some [str p] by simpa using this), txt_at h2⟩
  · obtain ⟨r, h1, h2⟩ := h.sl hm
    exact slice_from_at h1 h2

variable {S : AM.Sys} (hS : Only S 6)
include hS

theorem element_runs (x : Nat) (l : Txt) (H : Heap) (hg : Grp H) (hr : Rd H x l) (hl : l.length ≤ 100000) : ∃ v H', Runs Try.prog S (.fn 33) [rdr x] H v H' ∧ (elemE.from H.size).At H' (elemP l).1 [v] ∧ Rd H' x (elemP l).2 ∧ KeepX x H H' := by
  suffices h : WCall Try.prog S (.fn 33) [rdr x] H (fun v H' => (elemE.from H.size).At H' (elemP l).1 [v] ∧ Rd H' x (elemP l).2 ∧ KeepX x H H') by
    obtain ⟨v, H', hr, h⟩ := h; exact ⟨v, H', hr, h⟩
  have hxl : x < H.size := hr.lt
  have hmx : Go.maxLen = 9223372036854775807 := rfl
  have hpl := partP_fst l.length l (Nat.le_refl _)
  have hpr := partP_len l.length l (Nat.le_refl _)
  obtain ⟨H1, hR1, hr1, hk1⟩ := part_runs hS x l H hg hr hl
  have f1 := hR1.bx
  have hkn := Keep.newExact H1 [str (partP l).1] 9
  have ho := Own.new H1 [str (partP l).1] 9
  have hr2 : Rd (H1.newExact [str (partP l).1] 9) x (partP l).2 := Own.keep hr1 hkn
  have hk2 : KeepX x H (H1.newExact [str (partP l).1] 9) := hk1.trans (hkn.x x)
  refine call_of Try.func33 rfl (Nat.le_of_ble_eq_true rfl) (hS.no rfl _ _) ?_
  rw [Try.ntmps33, Try.results33]
  clear hR1 hr
  repeat' (first | (with_reducible refine sxGuardB_tsp (fun h => ?_) (fun h => ?_)) | (with_reducible refine sxGuardB_fsp (fun h => ?_) (fun h => ?_)) | (with_reducible refine sxIfB_sp (fun h => ?_) (fun h => ?_)) | simp only [↓sxC_skip, ↓sxC_draw, ↓sxC_region, ↓sxC_seq, ↓bxC_cond, ↓bxC_loop, ↓sxC_block, ↓sxC_exit, ↓sxC_goto, ↓sxC_ret, ↓sxOps_nil, ↓sxOps_cons, ↓sxDraw_nil, ↓bxDraw_cons, ↓sxDL_move, ↓sxDL_assign, ↓sxDL_pick, ↓sxDL_alloc, ↓sxDL_box, ↓sxDL_build, ↓sxDL_buildSlice, ↓sxDL_insert, ↓sxDL_load, ↓sxDL_nilCheck, ↓sxDL_binOp, ↓sxDL_unOp, ↓sxDL_convert, ↓sxDL_makeInterface, ↓sxDL_makeFunc, ↓sxDL_makeMap, ↓sxDL_makeSlice, ↓sxDL_slice, ↓sxDL_fieldAddr, ↓sxDL_field, ↓sxDL_indexAddr, ↓sxDL_index, ↓sxDL_typeAssert, ↓sxDL_extract, ↓sxDL_lookup, ↓sxDL_mapUpdate, ↓sxDL_range, ↓sxDL_next, ↓sxDL_entry, ↓sxDL_mapEntry, ↓sxDL_entryStore, ↓sxD_same, ↓sxStep_none, ↓bxStep_some, ↓bxOp_move, ↓bxOp_assign, ↓bxOp_pick, ↓bxOp_alloc, ↓bxOp_box, ↓bxOp_build, ↓bxOp_buildSlice, ↓bxOp_load, ↓bxOp_store, ↓bxOp_nilCheck, ↓bxOp_bin, ↓bxOp_un, ↓bxOp_makeI, ↓bxOp_makeFunc, ↓bxOp_makeSlice, ↓bxOp_slice, ↓bxOp_fieldAddr, ↓bxOp_field, ↓bxOp_indexAddr, ↓bxOp_index, ↓bxOp_assert, ↓bxOp_extract, ↓bxOp_value, ↓bxOp_len, ↓bxOp_cap, ↓bxOp_append, ↓bxOp_copy, ↓bxOp_clear, ↓bxOp_max, ↓bxOp_min, ↓bxOp_convert, ↓sxPut_none, ↓bxPut, ↓seqQ_normal, ↓seqQ_exit, ↓seqQ_ret, ↓seqQ_goto, ↓blockQ_normal, ↓blockQ_ret, ↓blockQ_goto, ↓blockQ_exit, ↓loopQ_normal, ↓loopQ_exit, ↓loopQ_ret, ↓loopQ_goto, ↓resQ_normal, ↓resQ_ret, ↓sxRes_nil, ↓sxRes_tmp, ↓bxRes_cell, ↓upd_apply, ↓ev_tmp, ↓ev_const, ↓ev_global, ↓ev_func, ↓dstAt, ↓gval_some, binP_str, eql_str, neq_str, aConvH_int, aConvH_str, aConvH_some, aSliceH_slice, aSliceH_ptr, aSliceH_str, sxOptB_some, sxOptB_ite, mm_max, mm_min, binP_shl, binP_shr, binP_int, intBin, una_not_dec, una_nt, una_nf, una_neg, aPick_true, aPick_false, sxCallVB_fn, sxCallVB_yield, sxGuardB_u, sxGuardB_tt, sxGuardB_tf, sxGuardB_ft, sxGuardB_ff, sxIfB_t, sxIfB_f, packRes_one, packRes_two, List.map_cons, List.map_nil, List.nil_append, List.cons_append, List.append_nil, ↓reduceIte, Nat.reduceEqDiff, Nat.reduceLT, dec_T, dec_F, false_imp, true_and, and_true, true_implies, implies_true, false_and, and_false, true_or, or_true, false_or, or_false, and_self, or_self, read_relow, size_relow, low_relow, relow_relow, aLoad_relow, Nat.add_zero, Nat.mul_one, one1, Option.bind_some, ne_eq, Int.natCast_nonneg, Int.toNat_natCast, not_true_eq_false, not_false_eq_true, Option.map_some, Option.map_none, *, argF, List.getD_cons_zero, List.getD_cons_succ, bsT] | (with_reducible refine sxDL_barE (by assumption) (by decide +kernel) ?_) | (with_reducible refine sxDL_bar (by decide +kernel) ?_) | (with_reducible refine sxD_bar (by decide +kernel) ?_) | (with_reducible refine sxDL_callD ?_))
  refine sxL_of (fun m ρ H2 => ∃ (l' : Txt) (ps : List Txt) (v : Value), m = l'.length ∧ Rd H2 x l' ∧ elemP l = (if startsWith 58 l' = true then (ps ++ (elemP l'.tail).1, (elemP l'.tail).2) else (ps, l')) ∧ KeepX x H H2 ∧ PL H.size H2 v ps ∧ ps.length + l'.length ≤ l.length + 1 ∧ ρ 0 = rdr x ∧ ρ 3 = v)
    ⟨(partP l).2, [(partP l).1], _, rfl, hr2, by rw [elemP_eq]; rfl, hk2, .inl ⟨H1.size, _, ho, hk1.size, rfl, by omega, rfl⟩, by simp; omega, rfl, rfl⟩ ?_
  clear hr1 hr2 hk1 hk2 ho hkn f1
  rintro m ρ H2 ⟨l', ps, v, rfl, hr, hp, hk, hP, hlen, e0, e3⟩
  have hg2 := hk.grp hg
  obtain ⟨H3, hR3, hr3, hk3⟩ := takes_runs hS x l' 58 58 rfl H2 hr
  have hk13 := hk.trans hk3
  have hP3 := hP.keepX hxl hk3
  cases hs : startsWith 58 l' with
  | false =>
    rw [hs] at hp hR3
    have hp : elemP l = (ps, l') := by rw [hp]; rfl
    have ha : after 58 l' = l' := by unfold after; rw [hs]; rfl
    rw [ha] at hr3
    have f3 := hR3.bx
    have hd := hP3.done (by omega)
    rw [hp]
    clear hR3 hP hP3 hr hs ha hp
    repeat' (first | (with_reducible refine sxGuardB_tsp (fun h => ?_) (fun h => ?_)) | (with_reducible refine sxGuardB_fsp (fun h => ?_) (fun h => ?_)) | (with_reducible refine sxIfB_sp (fun h => ?_) (fun h => ?_)) | simp only [↓sxC_skip, ↓sxC_draw, ↓sxC_region, ↓sxC_seq, ↓bxC_cond, ↓bxC_loop, ↓sxC_block, ↓sxC_exit, ↓sxC_goto, ↓sxC_ret, ↓sxOps_nil, ↓sxOps_cons, ↓sxDraw_nil, ↓bxDraw_cons, ↓sxDL_move, ↓sxDL_assign, ↓sxDL_pick, ↓sxDL_alloc, ↓sxDL_box, ↓sxDL_build, ↓sxDL_buildSlice, ↓sxDL_insert, ↓sxDL_load, ↓sxDL_nilCheck, ↓sxDL_binOp, ↓sxDL_unOp, ↓sxDL_convert, ↓sxDL_makeInterface, ↓sxDL_makeFunc, ↓sxDL_makeMap, ↓sxDL_makeSlice, ↓sxDL_slice, ↓sxDL_fieldAddr, ↓sxDL_field, ↓sxDL_indexAddr, ↓sxDL_index, ↓sxDL_typeAssert, ↓sxDL_extract, ↓sxDL_lookup, ↓sxDL_mapUpdate, ↓sxDL_range, ↓sxDL_next, ↓sxDL_entry, ↓sxDL_mapEntry, ↓sxDL_entryStore, ↓sxD_same, ↓sxStep_none, ↓bxStep_some, ↓bxOp_move, ↓bxOp_assign, ↓bxOp_pick, ↓bxOp_alloc, ↓bxOp_box, ↓bxOp_build, ↓bxOp_buildSlice, ↓bxOp_load, ↓bxOp_store, ↓bxOp_nilCheck, ↓bxOp_bin, ↓bxOp_un, ↓bxOp_makeI, ↓bxOp_makeFunc, ↓bxOp_makeSlice, ↓bxOp_slice, ↓bxOp_fieldAddr, ↓bxOp_field, ↓bxOp_indexAddr, ↓bxOp_index, ↓bxOp_assert, ↓bxOp_extract, ↓bxOp_value, ↓bxOp_len, ↓bxOp_cap, ↓bxOp_append, ↓bxOp_copy, ↓bxOp_clear, ↓bxOp_max, ↓bxOp_min, ↓bxOp_convert, ↓sxPut_none, ↓bxPut, ↓seqQ_normal, ↓seqQ_exit, ↓seqQ_ret, ↓seqQ_goto, ↓blockQ_normal, ↓blockQ_ret, ↓blockQ_goto, ↓blockQ_exit, ↓loopQ_normal, ↓loopQ_exit, ↓loopQ_ret, ↓loopQ_goto, ↓resQ_normal, ↓resQ_ret, ↓sxRes_nil, ↓sxRes_tmp, ↓bxRes_cell, ↓upd_apply, ↓ev_tmp, ↓ev_const, ↓ev_global, ↓ev_func, ↓dstAt, ↓gval_some, binP_str, eql_str, neq_str, aConvH_int, aConvH_str, aConvH_some, aSliceH_slice, aSliceH_ptr, aSliceH_str, sxOptB_some, sxOptB_ite, mm_max, mm_min, binP_shl, binP_shr, binP_int, intBin, una_not_dec, una_nt, una_nf, una_neg, aPick_true, aPick_false, sxCallVB_fn, sxCallVB_yield, sxGuardB_u, sxGuardB_tt, sxGuardB_tf, sxGuardB_ft, sxGuardB_ff, sxIfB_t, sxIfB_f, packRes_one, packRes_two, List.map_cons, List.map_nil, List.nil_append, List.cons_append, List.append_nil, ↓reduceIte, Nat.reduceEqDiff, Nat.reduceLT, dec_T, dec_F, false_imp, true_and, and_true, true_implies, implies_true, false_and, and_false, true_or, or_true, false_or, or_false, and_self, or_self, read_relow, size_relow, low_relow, relow_relow, aLoad_relow, Nat.add_zero, Nat.mul_one, one1, Option.bind_some, ne_eq, Int.natCast_nonneg, Int.toNat_natCast, not_true_eq_false, not_false_eq_true, Option.map_some, Option.map_none, *] | (with_reducible refine sxDL_barE (by assumption) (by decide +kernel) ?_) | (with_reducible refine sxDL_bar (by decide +kernel) ?_) | (with_reducible refine sxD_bar (by decide +kernel) ?_) | (with_reducible refine sxDL_callD ?_))
  | true =>
    rw [hs, if_pos rfl] at hp
    rw [hs] at hR3
    have ha : after 58 l' = l'.tail := by unfold after; rw [hs]; rfl
    rw [ha] at hr3
    have hlt : l'.tail.length + 1 = l'.length := by
      cases l' with
      | nil => cases hs
      | cons b l => simp
    have hg3 := hk3.grp hg2
    have hq1 := partP_fst l'.tail.length l'.tail (Nat.le_refl _)
    have hq2 := partP_len l'.tail.length l'.tail (Nat.le_refl _)
    obtain ⟨H4, hR4, hr4, hk4⟩ := part_runs hS x l'.tail H3 hg3 hr3 (by omega)
    have f3 := hR3.bx
    have f4 := hR4.bx
    have hP4 := hP3.keepX hxl hk4
    have hk14 := hk13.trans hk4
    obtain ⟨v5, H5, a5, hP5, hG5⟩ := hP4.push (hk4.grp hg3) hk14.size (partP l'.tail).1 (by omega) (by omega)
    have hr5 : Rd H5 x (partP l'.tail).2 := Own.ge hr4 (Nat.zero_le _) hG5.ge
    have hk' := hk14.grow hG5 (Nat.le_refl _) (Nat.le_of_lt hxl)
    have hp' : elemP l = (if startsWith 58 (partP l'.tail).2 = true then (ps ++ [(partP l'.tail).1] ++ (elemP (partP l'.tail).2.tail).1, (elemP (partP l'.tail).2.tail).2) else (ps ++ [(partP l'.tail).1], (partP l'.tail).2)) := by
      rw [hp, elemP_eq]
      split <;> simp
    clear hR3 hR4 hP hP3 hP4 hr hr3 hr4 hs ha hp
    generalize (partP l'.tail).1 = p at *
    generalize (partP l'.tail).2 = r at *
    repeat' (first | (with_reducible refine sxGuardB_tsp (fun h => ?_) (fun h => ?_)) | (with_reducible refine sxGuardB_fsp (fun h => ?_) (fun h => ?_)) | (with_reducible refine sxIfB_sp (fun h => ?_) (fun h => ?_)) | simp only [↓sxC_skip, ↓sxC_draw, ↓sxC_region, ↓sxC_seq, ↓bxC_cond, ↓bxC_loop, ↓sxC_block, ↓sxC_exit, ↓sxC_goto, ↓sxC_ret, ↓sxOps_nil, ↓sxOps_cons, ↓sxDraw_nil, ↓bxDraw_cons, ↓sxDL_move, ↓sxDL_assign, ↓sxDL_pick, ↓sxDL_alloc, ↓sxDL_box, ↓sxDL_build, ↓sxDL_buildSlice, ↓sxDL_insert, ↓sxDL_load, ↓sxDL_nilCheck, ↓sxDL_binOp, ↓sxDL_unOp, ↓sxDL_convert, ↓sxDL_makeInterface, ↓sxDL_makeFunc, ↓sxDL_makeMap, ↓sxDL_makeSlice, ↓sxDL_slice, ↓sxDL_fieldAddr, ↓sxDL_field, ↓sxDL_indexAddr, ↓sxDL_index, ↓sxDL_typeAssert, ↓sxDL_extract, ↓sxDL_lookup, ↓sxDL_mapUpdate, ↓sxDL_range, ↓sxDL_next, ↓sxDL_entry, ↓sxDL_mapEntry, ↓sxDL_entryStore, ↓sxD_same, ↓sxStep_none, ↓bxStep_some, ↓bxOp_move, ↓bxOp_assign, ↓bxOp_pick, ↓bxOp_alloc, ↓bxOp_box, ↓bxOp_build, ↓bxOp_buildSlice, ↓bxOp_load, ↓bxOp_store, ↓bxOp_nilCheck, ↓bxOp_bin, ↓bxOp_un, ↓bxOp_makeI, ↓bxOp_makeFunc, ↓bxOp_makeSlice, ↓bxOp_slice, ↓bxOp_fieldAddr, ↓bxOp_field, ↓bxOp_indexAddr, ↓bxOp_index, ↓bxOp_assert, ↓bxOp_extract, ↓bxOp_value, ↓bxOp_len, ↓bxOp_cap, ↓bxOp_append, ↓bxOp_copy, ↓bxOp_clear, ↓bxOp_max, ↓bxOp_min, ↓bxOp_convert, ↓sxPut_none, ↓bxPut, ↓seqQ_normal, ↓seqQ_exit, ↓seqQ_ret, ↓seqQ_goto, ↓blockQ_normal, ↓blockQ_ret, ↓blockQ_goto, ↓blockQ_exit, ↓loopQ_normal, ↓loopQ_exit, ↓loopQ_ret, ↓loopQ_goto, ↓resQ_normal, ↓resQ_ret, ↓sxRes_nil, ↓sxRes_tmp, ↓bxRes_cell, ↓upd_apply, ↓ev_tmp, ↓ev_const, ↓ev_global, ↓ev_func, ↓dstAt, ↓gval_some, binP_str, eql_str, neq_str, aConvH_int, aConvH_str, aConvH_some, aSliceH_slice, aSliceH_ptr, aSliceH_str, sxOptB_some, sxOptB_ite, mm_max, mm_min, binP_shl, binP_shr, binP_int, intBin, una_not_dec, una_nt, una_nf, una_neg, aPick_true, aPick_false, sxCallVB_fn, sxCallVB_yield, sxGuardB_u, sxGuardB_tt, sxGuardB_tf, sxGuardB_ft, sxGuardB_ff, sxIfB_t, sxIfB_f, packRes_one, packRes_two, List.map_cons, List.map_nil, List.nil_append, List.cons_append, List.append_nil, ↓reduceIte, Nat.reduceEqDiff, Nat.reduceLT, dec_T, dec_F, false_imp, true_and, and_true, true_implies, implies_true, false_and, and_false, true_or, or_true, false_or, or_false, and_self, or_self, read_relow, size_relow, low_relow, relow_relow, aLoad_relow, Nat.add_zero, Nat.mul_one, one1, Option.bind_some, ne_eq, Int.natCast_nonneg, Int.toNat_natCast, not_true_eq_false, not_false_eq_true, Option.map_some, Option.map_none, *, bsT] | (with_reducible refine sxDL_barE (by assumption) (by decide +kernel) ?_) | (with_reducible refine sxDL_bar (by decide +kernel) ?_) | (with_reducible refine sxD_bar (by decide +kernel) ?_) | (with_reducible refine sxDL_callD ?_))
    exact ⟨r.length, by omega, r, ps ++ [p], v5, rfl, hr5, rfl, hP5, by simp; omega, rfl⟩
end Go.Proofs.Ytifnmlocblanbaa
