/- The reader reads a segment: on the canonical machine. -/
import Derived.Test.YtifnmlocblanbaaP4
import Derived.Test.YtifnmlocblanbaaN6
set_option linter.unusedVariables false
set_option linter.unusedSimpArgs false
set_option linter.unusedSectionVars false

namespace Go.Proofs.Ytifnmlocblanbaa
open Go Go.AM
set_option maxRecDepth 10000
set_option linter.unusedSimpArgs false
set_option linter.unusedVariables false

theorem bdG (x : Txt) : aBuild Try.prog 32 [(0, str x)] = some (.agg ⟨[str x, .slice none 0 0]⟩) := by kernel_rfl
theorem okE : ElemOk Try.prog #[30, 30] 29 1 := ⟨⟨30, 30, _, Try.t29, .slice none 0 0, rfl, rfl, Try.underlying30, Try.underlying30, rfl, by kernel_rfl, by kernel_rfl, by kernel_rfl, by kernel_rfl, of_decide_eq_true (by kernel_rfl)⟩, by omega⟩
theorem bsE (H : Heap) (a : Option Addr) (n c : Nat) : aBuildSlice Try.prog H 30 1 [(0, .slice a n c)] = some (.slice (some ⟨H.size, 0, none⟩) 1 1, H.newExact [.slice a n c] 29) := by kernel_rfl
theorem infoE : ∃ i, Try.prog.info? 30 = some i ∧ i.size = 1 := Option.map_eq_some_iff.1 (show (Try.prog.info? 30).map (·.size) = some 1 by kernel_rfl)
theorem elemsP_eq (l : Txt) : elemsP l = if startsWith 43 l = true then ((elemP l.tail).1 :: (elemsP (elemP l.tail).2).1, (elemsP (elemP l.tail).2).2) else ([], l) := by
  rw [elemsP]
  split <;> rfl

theorem dec_and {p q : Prop} [Decidable p] [Decidable q] {b : Bool} (h : p ↔ b = true ∧ q) : decide p = (b && decide q) := by
  cases b <;> by_cases hp : p <;> by_cases hq : q <;> simp_all
theorem infoSg : ∃ i, Try.prog.info? 32 = some i ∧ i.size = 2 := Option.map_eq_some_iff.1 (show (Try.prog.info? 32).map (·.size) = some 2 by kernel_rfl)
theorem ldSg (H : Heap) (r o : Nat) : aLoad Try.prog H 32 (.pointer (some ⟨r, o, none⟩)) = (H.read r o 2).bind fun l => some (.agg ⟨l⟩) := by kernel_rfl
theorem veq_seg (l : Txt) (a : Option Addr) (n c : Nat) : veq (.agg ⟨[str l, .slice a n c]⟩) (.agg ⟨[str l, .slice a n c]⟩) = true := by
  simp only [veq, veqA, veqs, str, beq_self_eq_true, Bool.true_and, Bool.and_true, decide_true, Trie.beq_tt rfl]

theorem slice_of {H : Heap} {L : Nat} {ps : List Txt} {v : Value} (h : (elemE.from L).At H ps [v]) : ∃ a n c, v = .slice a n c := by
  obtain ⟨w, r, o, h1, h2⟩ := Enc.from_at h
  obtain ⟨a, c, e, _⟩ := h2.isv
  cases h1
  exact ⟨_, _, _, e⟩

variable {S : AM.Sys} (hS : Only S 6)
include hS

set_option maxHeartbeats 2000000 in
theorem segment_runs (x : Nat) (l : Txt) (H : Heap) (hL : H.low ≤ H.size) (hg : Grp H) (hr : Rd H x l) (hl : l.length ≤ 100000) : ∃ v H', Runs Try.prog S (.fn 18) [rdr x] H (.tuple ⟨[.agg ⟨[str (tagP l), v]⟩, .bool (decide (formP l))]⟩) H' ∧ (elemsE.from H.size).At H' (elemsP (l.dropWhile upB)).1 [v] ∧ Rd H' x (after 39 (restP l)) ∧ KeepX x H H' := by
  suffices h : WCall Try.prog S (.fn 18) [rdr x] H (fun u H' => ∃ v, u = (.tuple ⟨[.agg ⟨[str (tagP l), v]⟩, .bool (decide (formP l))]⟩) ∧ (elemsE.from H.size).At H' (elemsP (l.dropWhile upB)).1 [v] ∧ Rd H' x (after 39 (restP l)) ∧ KeepX x H H') by
    obtain ⟨_, H', hr, v, rfl, h⟩ := h; exact ⟨v, H', hr, h⟩
  have hxl : x < H.size := hr.lt
  have hmx : Go.maxLen = 9223372036854775807 := rfl
  have hka := Keep.newExact H [str [], .slice none 0 0] 32
  have hoa := Own.new H [str [], .slice none 0 0] 32
  have hra : Rd (H.newExact [str [], .slice none 0 0] 32) x l := Own.keep hr hka
  have hza : (H.newExact [str [], .slice none 0 0] 32).size = H.size + 1 := size_new _ _ _
  have hal := alG H
  generalize hHa : H.newExact [str [], .slice none 0 0] 32 = Ha at *
  have hrda := Rd.rd hra
  have f1 := (countBytes_runs hS upB (isUpper_runs hS) l (by omega) Ha).bx
  have htl : (l.takeWhile upB).length ≤ l.length := (List.takeWhile_sublist _).length_le
  have htag : (tagP l).length ≤ Go.maxLen := by show (l.takeWhile upB).length ≤ _; omega
  obtain ⟨Hb, hRb, hrb, hkb⟩ := take_runs hS x l (l.takeWhile upB).length htl Ha hra
  have ht1 : l.take (l.takeWhile upB).length = tagP l := by
    have := List.takeWhile_append_dropWhile (p := upB) (l := l)
    conv => lhs; arg 2; rw [← this]
    rw [List.take_left]; rfl
  have ht2 : l.drop (l.takeWhile upB).length = l.dropWhile upB := by
    have := List.takeWhile_append_dropWhile (p := upB) (l := l)
    conv => lhs; arg 2; rw [← this]
    rw [List.drop_left]
  have hdl : (l.dropWhile upB).length ≤ l.length := (List.dropWhile_sublist _).length_le
  rw [ht1] at hRb
  rw [ht2] at hrb
  have f2 := hRb.bx
  obtain ⟨Hd, hsd, hkd, hod⟩ := newSeg Hb (tagP l) none 0 0
  have hrd : Rd Hd x (l.dropWhile upB) := Own.keep hrb hkd
  have hoa2 : Own Hd H.size 32 [str [], .slice none 0 0] := (Own.ge hoa (show x + 1 ≤ H.size by omega) hkb.ge).keep hkd
  have hkx : KeepX x H Hd := ((hka.x x).trans hkb).trans (hkd.x x)
  have hrs : H.size + 1 ≤ Hb.size := by have := hkb.size; omega
  refine call_of Try.func18 rfl (Nat.le_of_ble_eq_true rfl) (hS.no rfl _ _) ?_
  rw [Try.ntmps18, Try.results18]
  clear hRb hr hra hrb hka hkb hkd hoa ht1 ht2
  generalize hcn : (((l.takeWhile upB).length : Nat) : Int) = n at *
  have halb := alG Hb
  repeat' (first | (with_reducible refine sxGuardB_tsp (fun h => ?_) (fun h => ?_)) | (with_reducible refine sxGuardB_fsp (fun h => ?_) (fun h => ?_)) | (with_reducible refine sxIfB_sp (fun h => ?_) (fun h => ?_)) | simp only [↓sxC_skip, ↓sxC_draw, ↓sxC_region, ↓sxC_seq, ↓bxC_cond, ↓bxC_loop, ↓sxC_block, ↓sxC_exit, ↓sxC_goto, ↓sxC_ret, ↓sxOps_nil, ↓sxOps_cons, ↓sxDraw_nil, ↓bxDraw_cons, ↓sxDL_move, ↓sxDL_assign, ↓sxDL_pick, ↓sxDL_alloc, ↓sxDL_box, ↓sxDL_build, ↓sxDL_buildSlice, ↓sxDL_insert, ↓sxDL_load, ↓sxDL_nilCheck, ↓sxDL_binOp, ↓sxDL_unOp, ↓sxDL_convert, ↓sxDL_makeInterface, ↓sxDL_makeFunc, ↓sxDL_makeMap, ↓sxDL_makeSlice, ↓sxDL_slice, ↓sxDL_fieldAddr, ↓sxDL_field, ↓sxDL_indexAddr, ↓sxDL_index, ↓sxDL_typeAssert, ↓sxDL_extract, ↓sxDL_lookup, ↓sxDL_mapUpdate, ↓sxDL_range, ↓sxDL_next, ↓sxDL_entry, ↓sxDL_mapEntry, ↓sxDL_entryStore, ↓sxD_same, ↓sxStep_none, ↓bxStep_some, ↓bxOp_move, ↓bxOp_assign, ↓bxOp_pick, ↓bxOp_alloc, ↓bxOp_box, ↓bxOp_build, ↓bxOp_buildSlice, ↓bxOp_load, ↓bxOp_store, ↓bxOp_nilCheck, ↓bxOp_bin, ↓bxOp_un, ↓bxOp_makeI, ↓bxOp_makeFunc, ↓bxOp_makeSlice, ↓bxOp_slice, ↓bxOp_fieldAddr, ↓bxOp_field, ↓bxOp_indexAddr, ↓bxOp_index, ↓bxOp_assert, ↓bxOp_extract, ↓bxOp_value, ↓bxOp_len, ↓bxOp_cap, ↓bxOp_append, ↓bxOp_copy, ↓bxOp_clear, ↓bxOp_max, ↓bxOp_min, ↓bxOp_convert, ↓sxPut_none, ↓bxPut, ↓seqQ_normal, ↓seqQ_exit, ↓seqQ_ret, ↓seqQ_goto, ↓blockQ_normal, ↓blockQ_ret, ↓blockQ_goto, ↓blockQ_exit, ↓loopQ_normal, ↓loopQ_exit, ↓loopQ_ret, ↓loopQ_goto, ↓resQ_normal, ↓resQ_ret, ↓sxRes_nil, ↓sxRes_tmp, ↓bxRes_cell, ↓upd_apply, ↓ev_tmp, ↓ev_const, ↓ev_global, ↓ev_func, ↓dstAt, ↓gval_some, binP_str, eql_str, neq_str, aConvH_int, aConvH_str, aConvH_some, aSliceH_slice, aSliceH_ptr, aSliceH_str, sxOptB_some, sxOptB_ite, mm_max, mm_min, binP_shl, binP_shr, binP_int, intBin, una_not_dec, una_nt, una_nf, una_neg, aPick_true, aPick_false, sxCallVB_fn, sxCallVB_yield, sxGuardB_u, sxGuardB_tt, sxGuardB_tf, sxGuardB_ft, sxGuardB_ff, sxIfB_t, sxIfB_f, packRes_one, packRes_two, List.map_cons, List.map_nil, List.nil_append, List.cons_append, List.append_nil, ↓reduceIte, Nat.reduceEqDiff, Nat.reduceLT, dec_T, dec_F, false_imp, true_and, and_true, true_implies, implies_true, false_and, and_false, true_or, or_true, false_or, or_false, and_self, or_self, read_relow, size_relow, low_relow, relow_relow, aLoad_relow, Nat.add_zero, Nat.mul_one, one1, Option.bind_some, ne_eq, Int.natCast_nonneg, Int.toNat_natCast, not_true_eq_false, not_false_eq_true, Option.map_some, Option.map_none, *, argF, List.getD_cons_zero, List.getD_cons_succ, faR, ncP, ldT, one1, bdG] | (with_reducible refine sxDL_barE (by assumption) (by decide +kernel) ?_) | (with_reducible refine sxDL_bar (by decide +kernel) ?_) | (with_reducible refine sxD_bar (by decide +kernel) ?_) | fail)
  generalize hrsz : Hb.size = rs at *
  have form : formP l ↔ startsWith 39 (elemsP (l.dropWhile upB)).2 = true ∧ TagOk (tagP l) := Iff.rfl
  have rest : restP l = (elemsP (l.dropWhile upB)).2 := rfl
  generalize hl1 : l.dropWhile upB = l1 at *
  generalize htg : tagP l = tag at *
  refine sxL_of (fun m ρ H1 => ∃ (l' : Txt) (es : List (List Txt)) (v : Value), m = l'.length ∧ Rd H1 x l' ∧ elemsP l1 = (es ++ (elemsP l').1, (elemsP l').2) ∧ KeepX x H H1 ∧ Own H1 rs 32 [str tag, v] ∧ Own H1 H.size 32 [str [], .slice none 0 0] ∧
    LstG (elemE.from (rs + 1)) 29 (rs + 1) H1 v es ∧ rs < H1.size ∧ es.length + l'.length ≤ l.length ∧ ρ 0 = rdr x ∧ ρ 2 = .pointer (some ⟨H.size, 0, none⟩) ∧ ρ 4 = .pointer (some ⟨rs, 0, none⟩))
    ⟨l1, [], .slice none 0 0, rfl, hrd, by simp, hkx, hod, hoa2, LstG.nil, hod.lt, by simp; omega, rfl, rfl, rfl⟩ ?_
  clear hrd hkx hod hoa2 f1 f2 hsd hrda hal halb
  rintro m ρ H1 ⟨l', es, v, rfl, hr, hp, hk, ho, ho2, hE, hlt, hlen, e0, e2, e4⟩
  have hg1 := hk.grp hg
  have hL1 := hk.low hL
  obtain ⟨a, rfl⟩ := hE.isv
  obtain ⟨H2, hR2, hr2, hk2⟩ := takes_runs hS x l' 43 43 rfl H1 hr
  have f2 := hR2.bx
  cases hs : startsWith 43 l' with
  | true =>
    rw [hs] at f2
    have ha : after 43 l' = l'.tail := by unfold after; rw [hs]; rfl
    rw [ha] at hr2
    rw [elemsP_eq l', hs, if_pos rfl] at hp
    have hlt' : l'.tail.length + 1 = l'.length := by
      cases l' with
      | nil => cases hs
      | cons b l => simp
    have hk12 := hk.trans hk2
    have hg2 := hk2.grp hg1
    have hL2 := hk12.low hL
    have ho' := Own.ge ho (show x + 1 ≤ rs by omega) hk2.ge
    have ho2' := Own.ge ho2 (show x + 1 ≤ H.size by omega) hk2.ge
    have hE' := hE.ge (Enc.from_stable _ _) (hk2.ge.mono (show x + 1 ≤ rs + 1 by omega)) hk2.mem
    have rd2 : H2.read rs 1 1 = some [.slice a es.length es.length] := by
      have := ho'.read (o := 1) (n := 1) (by simp)
      simpa using this
    obtain ⟨v3, H3, hR3, hat3, hr3, hk3⟩ := element_runs hS x l'.tail (H2.relow H2.size) hg2 (Own.addr hr2) (by omega)
    have f3 := hR3.bx
    have hk2s := hk2.size
    clear hR2 hR3 hs ha hr hE ho ho2 hk2
    have hz3 : (H2.relow H2.size).size ≤ H3.size := hk3.size
    have hz3' : H2.size ≤ H3.size := hz3
    have hz2 : H1.size ≤ H2.size := hk2s
    obtain ⟨a3, n3, c3, rfl⟩ := slice_of hat3
    generalize hH4 : H3.relow (Nat.min H2.low H3.low) = H4
    have hk4 : KeepX x H H4 := by rw [← hH4]; exact hk12.draw hk3 (.inl rfl)
    have hz4 : H4.size = H3.size := by rw [← hH4]; rfl
    have hr4 : Rd H4 x (elemP l'.tail).2 := by rw [← hH4]; exact Own.addr hr3
    have ho4 : Own H4 rs 32 [str tag, .slice a es.length es.length] := by rw [← hH4]; exact (Own.ge ho'.addr (show x + 1 ≤ rs by omega) hk3.ge).addr
    have ho42 : Own H4 H.size 32 [str [], .slice none 0 0] := by rw [← hH4]; exact (Own.ge ho2'.addr (show x + 1 ≤ H.size by omega) hk3.ge).addr
    have hE4 : LstG (elemE.from (rs + 1)) 29 (rs + 1) H4 (.slice a es.length es.length) es := by
      rw [← hH4]
      exact ((hE'.low (Enc.from_stable _ _)).ge (Enc.from_stable _ _) (hk3.ge.mono (show x + 1 ≤ rs + 1 by omega)) hk3.mem).low (Enc.from_stable _ _)
    have hat4 : (elemE.from (rs + 1)).At H4 (elemP l'.tail).1 [.slice a3 n3 c3] := by
      rw [← hH4]
      exact Enc.from_stable _ _ (Ge.refl _ _).relow (Enc.from_mono (show rs + 1 ≤ (H2.relow H2.size).size by show rs + 1 ≤ H2.size; omega) hat3)
    have hg4 : Grp H4 := hk4.grp hg
    have hL4 : H4.low ≤ H4.size := hk4.low hL
    have rd3 : H3.read rs 1 1 = some [.slice a es.length es.length] := by
      have := (Own.ge ho'.addr (show x + 1 ≤ rs by omega) hk3.ge : Own H3 rs _ _).read (o := 1) (n := 1) (by simp)
      simpa using this
    have hkn := Keep.newExact (H4.relow H4.size) [.slice a3 n3 c3] 29
    have hon := Own.new (H4.relow H4.size) [.slice a3 n3 c3] 29
    have fB := bsE (H4.relow H4.size) a3 n3 c3
    rw [size_relow] at fB hon
    generalize (H4.relow H4.size).newExact [.slice a3 n3 c3] 29 = H5 at hkn hon fB
    have fD := fun all n k => sxD_keep (all := all) (n := n) hkn k
    have hkD := hkn.draw
    have hz5 : H4.size ≤ H5.size := hkn.size
    generalize hH6 : H5.relow (Nat.min H4.low H5.low) = H6 at fD hkD
    have hz6 : H6.size = H5.size := by rw [← hH6]; rfl
    have ho6 : Own (H6.relow H6.size) H4.size 29 [.slice a3 n3 c3] := by rw [← hH6]; exact hon.addr.addr
    have hk6 : KeepX x H H6 := hk4.trans (hkD.x x)
    have hr6 := ho6.read (o := 0) (n := 1) (by simp)
    have hE6 : LstG (elemE.from (rs + 1)) 29 (rs + 1) (H6.relow H6.size) (.slice a es.length es.length) es := (hE4.keep hkD).low (Enc.from_stable _ _)
    have hg6 : Grp (H6.relow H6.size) := hkD.grp hg4
    have hat6 : (elemE.from (rs + 1)).At (H6.relow H6.size) (elemP l'.tail).1 [.slice a3 n3 c3] := Enc.from_stable _ _ (Ge.refl _ _).relow ((elemE.from (rs + 1)).keep hkD hat4)
    have hq := elemP_len l'.tail
    obtain ⟨v7, H7, f7, hE7, hG7⟩ := hE6.put (ys := [(elemP l'.tail).1]) (n := 1) (x := .slice (some ⟨H4.size, 0, none⟩) 1 1) okE (Stable.from0 _ _) hg6 (show rs + 1 ≤ H6.size by omega) rfl hr6 rfl rfl (Chunks.one hat6) (by omega)
    generalize hH8 : H7.relow (Nat.min H6.low H7.low) = H8
    have hz7 : (H6.relow H6.size).size ≤ H7.size := hG7.ge.size
    have hz7' : H6.size ≤ H7.size := hz7
    have hz8 : H8.size = H7.size := by rw [← hH8]; rfl
    have hk8 : KeepX x H H8 := by rw [← hH8]; exact hk6.drawG hG7 (by omega) (by omega)
    have hr8 : Rd (H8.relow H8.size) x (elemP l'.tail).2 := by rw [← hH8]; exact (Own.ge (Own.keep hr4 hkD).addr (Nat.zero_le _) hG7.ge).addr.addr
    have ho8 : Own (H8.relow H8.size) rs 32 [str tag, .slice a es.length es.length] := by rw [← hH8]; exact (Own.ge (Own.keep ho4 hkD).addr (Nat.zero_le _) hG7.ge).addr.addr
    have ho82 : Own (H8.relow H8.size) H.size 32 [str [], .slice none 0 0] := by rw [← hH8]; exact (Own.ge (Own.keep ho42 hkD).addr (Nat.zero_le _) hG7.ge).addr.addr
    have hE8 : LstG (elemE.from (rs + 1)) 29 (rs + 1) (H8.relow H8.size) v7 (es ++ [(elemP l'.tail).1]) := by rw [← hH8]; exact (hE7.low (Enc.from_stable _ _)).low (Enc.from_stable _ _)
    obtain ⟨a7, rfl⟩ := hE7.isv
    obtain ⟨i33, hi33, hs33⟩ := infoE
    obtain ⟨H9, f9, ho9, hk9, hz9⟩ := ho8.storeX (o := 1) (t := 30) hi33 (v := .slice a7 (es ++ [(elemP l'.tail).1]).length (es ++ [(elemP l'.tail).1]).length) (new := [.slice a7 (es ++ [(elemP l'.tail).1]).length (es ++ [(elemP l'.tail).1]).length]) rfl hs33 rfl (by simp)
    have hz9' : H9.size = H8.size := hz9
    generalize hH10 : H9.relow (Nat.min H8.low H9.low) = H10
    have hk10 : KeepX x H H10 := by rw [← hH10]; exact hk8.draw hk9 (.inr ⟨by omega, by omega⟩)
    have hr10 : Rd H10 x (elemP l'.tail).2 := by
      rw [← hH10]
      exact Own.addr ⟨(hk9.row x _ (by omega) (Own.lt hr8) (Own.get hr8)).1, by have := Own.lt hr8; rw [hz9]; exact this⟩
    have ho10 : Own H10 rs 32 [str tag, .slice a7 (es ++ [(elemP l'.tail).1]).length (es ++ [(elemP l'.tail).1]).length] := by rw [← hH10]; exact ho9.addr
    have ho102 : Own H10 H.size 32 [str [], .slice none 0 0] := by
      rw [← hH10]
      exact Own.addr ⟨(hk9.row H.size _ (by omega) (Own.lt ho82) (Own.get ho82)).1, by have := Own.lt ho82; rw [hz9]; exact this⟩
    have hE10 : LstG (elemE.from (rs + 1)) 29 (rs + 1) H10 (.slice a7 (es ++ [(elemP l'.tail).1]).length (es ++ [(elemP l'.tail).1]).length) (es ++ [(elemP l'.tail).1]) := by
      rw [← hH10]
      exact (hE8.ge (Enc.from_stable _ _) hk9.ge hk9.mem).low (Enc.from_stable _ _)
    have hz10 : H10.size = H9.size := by rw [← hH10]; rfl
    have hL6 := hk6.low hL
    have hL8 := hk8.low hL
    have hL2' : H2.low ≤ H2.size := hL2
    have hlt10 : rs < H10.size := by omega
    have hlen1 : (es ++ [(elemP l'.tail).1]).length = es.length + 1 := by simp
    have hlen10 : (es ++ [(elemP l'.tail).1]).length + (elemP l'.tail).2.length ≤ l.length := by omega
    clear hz2 hz3 hz3' hz4 hz5 hz6 hz7 hz7' hz8 hz9 hz9' hz10 hlen1 hk2s
    clear hk4 hr4 ho4 ho42 hE4 hat4 hg4 hkn hat6 hg6 hE6 hr6 hon hkD ho6 hk6 hE7 hG7 hk8 hr8 ho8 ho82 hE8 ho9 hk9 hk3 hat3 hr3 ho' ho2' hE' hk12 hg2 hL2 hg1 hL1 hk
    repeat' (first | (with_reducible refine sxGuardB_tsp (fun h => ?_) (fun h => ?_)) | (with_reducible refine sxGuardB_fsp (fun h => ?_) (fun h => ?_)) | (with_reducible refine sxIfB_sp (fun h => ?_) (fun h => ?_)) | simp only [↓sxC_skip, ↓sxC_draw, ↓sxC_region, ↓sxC_seq, ↓bxC_cond, ↓bxC_loop, ↓sxC_block, ↓sxC_exit, ↓sxC_goto, ↓sxC_ret, ↓sxOps_nil, ↓sxOps_cons, ↓sxDraw_nil, ↓bxDraw_cons, ↓sxDL_move, ↓sxDL_assign, ↓sxDL_pick, ↓sxDL_alloc, ↓sxDL_box, ↓sxDL_build, ↓sxDL_buildSlice, ↓sxDL_insert, ↓sxDL_load, ↓sxDL_nilCheck, ↓sxDL_binOp, ↓sxDL_unOp, ↓sxDL_convert, ↓sxDL_makeInterface, ↓sxDL_makeFunc, ↓sxDL_makeMap, ↓sxDL_makeSlice, ↓sxDL_slice, ↓sxDL_fieldAddr, ↓sxDL_field, ↓sxDL_indexAddr, ↓sxDL_index, ↓sxDL_typeAssert, ↓sxDL_extract, ↓sxDL_lookup, ↓sxDL_mapUpdate, ↓sxDL_range, ↓sxDL_next, ↓sxDL_entry, ↓sxDL_mapEntry, ↓sxDL_entryStore, ↓sxD_same, ↓sxStep_none, ↓bxStep_some, ↓bxOp_move, ↓bxOp_assign, ↓bxOp_pick, ↓bxOp_alloc, ↓bxOp_box, ↓bxOp_build, ↓bxOp_buildSlice, ↓bxOp_load, ↓bxOp_store, ↓bxOp_nilCheck, ↓bxOp_bin, ↓bxOp_un, ↓bxOp_makeI, ↓bxOp_makeFunc, ↓bxOp_makeSlice, ↓bxOp_slice, ↓bxOp_fieldAddr, ↓bxOp_field, ↓bxOp_indexAddr, ↓bxOp_index, ↓bxOp_assert, ↓bxOp_extract, ↓bxOp_value, ↓bxOp_len, ↓bxOp_cap, ↓bxOp_append, ↓bxOp_copy, ↓bxOp_clear, ↓bxOp_max, ↓bxOp_min, ↓bxOp_convert, ↓sxPut_none, ↓bxPut, ↓seqQ_normal, ↓seqQ_exit, ↓seqQ_ret, ↓seqQ_goto, ↓blockQ_normal, ↓blockQ_ret, ↓blockQ_goto, ↓blockQ_exit, ↓loopQ_normal, ↓loopQ_exit, ↓loopQ_ret, ↓loopQ_goto, ↓resQ_normal, ↓resQ_ret, ↓sxRes_nil, ↓sxRes_tmp, ↓bxRes_cell, ↓upd_apply, ↓ev_tmp, ↓ev_const, ↓ev_global, ↓ev_func, ↓dstAt, ↓gval_some, binP_str, eql_str, neq_str, aConvH_int, aConvH_str, aConvH_some, aSliceH_slice, aSliceH_ptr, aSliceH_str, sxOptB_some, sxOptB_ite, mm_max, mm_min, binP_shl, binP_shr, binP_int, intBin, una_not_dec, una_nt, una_nf, una_neg, aPick_true, aPick_false, sxCallVB_fn, sxCallVB_yield, sxGuardB_u, sxGuardB_tt, sxGuardB_tf, sxGuardB_ft, sxGuardB_ff, sxIfB_t, sxIfB_f, packRes_one, packRes_two, List.map_cons, List.map_nil, List.nil_append, List.cons_append, List.append_nil, ↓reduceIte, Nat.reduceEqDiff, Nat.reduceLT, dec_T, dec_F, false_imp, true_and, and_true, true_implies, implies_true, false_and, and_false, true_or, or_true, false_or, or_false, and_self, or_self, read_relow, size_relow, low_relow, relow_relow, aLoad_relow, Nat.add_zero, Nat.mul_one, one1, Option.bind_some, ne_eq, Int.natCast_nonneg, Int.toNat_natCast, not_true_eq_false, not_false_eq_true, Option.map_some, Option.map_none, *, faG1, ldEs, one1] | (with_reducible refine sxDL_barE (by assumption) (by decide +kernel) ?_) | (with_reducible refine sxDL_bar (by decide +kernel) ?_) | (with_reducible refine sxD_bar (by decide +kernel) ?_) | fail)
    refine sxDL_lateC hH4 [1] (by decide +kernel) (by decide +kernel) (fun j hj => ?_) ?_
    · obtain rfl : j = 1 := by simpa using hj
      refine lateB_new rfl rfl rfl (by decide +kernel) ?_ ?_ (veq_slice a es.length es.length)
      · show aLoad Try.prog H2 30 (.pointer (some ⟨rs, 0 + 1, none⟩)) = _
        rw [ldEs, Nat.zero_add, rd2]; rfl
      · show aLoad Try.prog H3 30 (.pointer (some ⟨rs, 0 + 1, none⟩)) = _
        rw [ldEs, Nat.zero_add, rd3]; rfl
    repeat' (first | (with_reducible refine sxGuardB_tsp (fun h => ?_) (fun h => ?_)) | (with_reducible refine sxGuardB_fsp (fun h => ?_) (fun h => ?_)) | (with_reducible refine sxIfB_sp (fun h => ?_) (fun h => ?_)) | simp only [↓sxC_skip, ↓sxC_draw, ↓sxC_region, ↓sxC_seq, ↓bxC_cond, ↓bxC_loop, ↓sxC_block, ↓sxC_exit, ↓sxC_goto, ↓sxC_ret, ↓sxOps_nil, ↓sxOps_cons, ↓sxDraw_nil, ↓bxDraw_cons, ↓sxDL_move, ↓sxDL_assign, ↓sxDL_pick, ↓sxDL_alloc, ↓sxDL_box, ↓sxDL_build, ↓sxDL_buildSlice, ↓sxDL_insert, ↓sxDL_load, ↓sxDL_nilCheck, ↓sxDL_binOp, ↓sxDL_unOp, ↓sxDL_convert, ↓sxDL_makeInterface, ↓sxDL_makeFunc, ↓sxDL_makeMap, ↓sxDL_makeSlice, ↓sxDL_slice, ↓sxDL_fieldAddr, ↓sxDL_field, ↓sxDL_indexAddr, ↓sxDL_index, ↓sxDL_typeAssert, ↓sxDL_extract, ↓sxDL_lookup, ↓sxDL_mapUpdate, ↓sxDL_range, ↓sxDL_next, ↓sxDL_entry, ↓sxDL_mapEntry, ↓sxDL_entryStore, ↓sxD_same, ↓sxStep_none, ↓bxStep_some, ↓bxOp_move, ↓bxOp_assign, ↓bxOp_pick, ↓bxOp_alloc, ↓bxOp_box, ↓bxOp_build, ↓bxOp_buildSlice, ↓bxOp_load, ↓bxOp_store, ↓bxOp_nilCheck, ↓bxOp_bin, ↓bxOp_un, ↓bxOp_makeI, ↓bxOp_makeFunc, ↓bxOp_makeSlice, ↓bxOp_slice, ↓bxOp_fieldAddr, ↓bxOp_field, ↓bxOp_indexAddr, ↓bxOp_index, ↓bxOp_assert, ↓bxOp_extract, ↓bxOp_value, ↓bxOp_len, ↓bxOp_cap, ↓bxOp_append, ↓bxOp_copy, ↓bxOp_clear, ↓bxOp_max, ↓bxOp_min, ↓bxOp_convert, ↓sxPut_none, ↓bxPut, ↓seqQ_normal, ↓seqQ_exit, ↓seqQ_ret, ↓seqQ_goto, ↓blockQ_normal, ↓blockQ_ret, ↓blockQ_goto, ↓blockQ_exit, ↓loopQ_normal, ↓loopQ_exit, ↓loopQ_ret, ↓loopQ_goto, ↓resQ_normal, ↓resQ_ret, ↓sxRes_nil, ↓sxRes_tmp, ↓bxRes_cell, ↓upd_apply, ↓ev_tmp, ↓ev_const, ↓ev_global, ↓ev_func, ↓dstAt, ↓gval_some, binP_str, eql_str, neq_str, aConvH_int, aConvH_str, aConvH_some, aSliceH_slice, aSliceH_ptr, aSliceH_str, sxOptB_some, sxOptB_ite, mm_max, mm_min, binP_shl, binP_shr, binP_int, intBin, una_not_dec, una_nt, una_nf, una_neg, aPick_true, aPick_false, sxCallVB_fn, sxCallVB_yield, sxGuardB_u, sxGuardB_tt, sxGuardB_tf, sxGuardB_ft, sxGuardB_ff, sxIfB_t, sxIfB_f, packRes_one, packRes_two, List.map_cons, List.map_nil, List.nil_append, List.cons_append, List.append_nil, ↓reduceIte, Nat.reduceEqDiff, Nat.reduceLT, dec_T, dec_F, false_imp, true_and, and_true, true_implies, implies_true, false_and, and_false, true_or, or_true, false_or, or_false, and_self, or_self, read_relow, size_relow, low_relow, relow_relow, aLoad_relow, Nat.add_zero, Nat.mul_one, one1, Option.bind_some, ne_eq, Int.natCast_nonneg, Int.toNat_natCast, not_true_eq_false, not_false_eq_true, Option.map_some, Option.map_none, *, faG1, ldEs, one1] | (with_reducible refine sxDL_barE (by assumption) (by decide +kernel) ?_) | (with_reducible refine sxDL_bar (by decide +kernel) ?_) | (with_reducible refine sxD_bar (by decide +kernel) ?_) | fail)
    refine sxDL_lateC hH8 [] (by decide +kernel) (by decide +kernel) (fun j hj => by cases hj) ?_
    repeat' (first | (with_reducible refine sxGuardB_tsp (fun h => ?_) (fun h => ?_)) | (with_reducible refine sxGuardB_fsp (fun h => ?_) (fun h => ?_)) | (with_reducible refine sxIfB_sp (fun h => ?_) (fun h => ?_)) | simp only [↓sxC_skip, ↓sxC_draw, ↓sxC_region, ↓sxC_seq, ↓bxC_cond, ↓bxC_loop, ↓sxC_block, ↓sxC_exit, ↓sxC_goto, ↓sxC_ret, ↓sxOps_nil, ↓sxOps_cons, ↓sxDraw_nil, ↓bxDraw_cons, ↓sxDL_move, ↓sxDL_assign, ↓sxDL_pick, ↓sxDL_alloc, ↓sxDL_box, ↓sxDL_build, ↓sxDL_buildSlice, ↓sxDL_insert, ↓sxDL_load, ↓sxDL_nilCheck, ↓sxDL_binOp, ↓sxDL_unOp, ↓sxDL_convert, ↓sxDL_makeInterface, ↓sxDL_makeFunc, ↓sxDL_makeMap, ↓sxDL_makeSlice, ↓sxDL_slice, ↓sxDL_fieldAddr, ↓sxDL_field, ↓sxDL_indexAddr, ↓sxDL_index, ↓sxDL_typeAssert, ↓sxDL_extract, ↓sxDL_lookup, ↓sxDL_mapUpdate, ↓sxDL_range, ↓sxDL_next, ↓sxDL_entry, ↓sxDL_mapEntry, ↓sxDL_entryStore, ↓sxD_same, ↓sxStep_none, ↓bxStep_some, ↓bxOp_move, ↓bxOp_assign, ↓bxOp_pick, ↓bxOp_alloc, ↓bxOp_box, ↓bxOp_build, ↓bxOp_buildSlice, ↓bxOp_load, ↓bxOp_store, ↓bxOp_nilCheck, ↓bxOp_bin, ↓bxOp_un, ↓bxOp_makeI, ↓bxOp_makeFunc, ↓bxOp_makeSlice, ↓bxOp_slice, ↓bxOp_fieldAddr, ↓bxOp_field, ↓bxOp_indexAddr, ↓bxOp_index, ↓bxOp_assert, ↓bxOp_extract, ↓bxOp_value, ↓bxOp_len, ↓bxOp_cap, ↓bxOp_append, ↓bxOp_copy, ↓bxOp_clear, ↓bxOp_max, ↓bxOp_min, ↓bxOp_convert, ↓sxPut_none, ↓bxPut, ↓seqQ_normal, ↓seqQ_exit, ↓seqQ_ret, ↓seqQ_goto, ↓blockQ_normal, ↓blockQ_ret, ↓blockQ_goto, ↓blockQ_exit, ↓loopQ_normal, ↓loopQ_exit, ↓loopQ_ret, ↓loopQ_goto, ↓resQ_normal, ↓resQ_ret, ↓sxRes_nil, ↓sxRes_tmp, ↓bxRes_cell, ↓upd_apply, ↓ev_tmp, ↓ev_const, ↓ev_global, ↓ev_func, ↓dstAt, ↓gval_some, binP_str, eql_str, neq_str, aConvH_int, aConvH_str, aConvH_some, aSliceH_slice, aSliceH_ptr, aSliceH_str, sxOptB_some, sxOptB_ite, mm_max, mm_min, binP_shl, binP_shr, binP_int, intBin, una_not_dec, una_nt, una_nf, una_neg, aPick_true, aPick_false, sxCallVB_fn, sxCallVB_yield, sxGuardB_u, sxGuardB_tt, sxGuardB_tf, sxGuardB_ft, sxGuardB_ff, sxIfB_t, sxIfB_f, packRes_one, packRes_two, List.map_cons, List.map_nil, List.nil_append, List.cons_append, List.append_nil, ↓reduceIte, Nat.reduceEqDiff, Nat.reduceLT, dec_T, dec_F, false_imp, true_and, and_true, true_implies, implies_true, false_and, and_false, true_or, or_true, false_or, or_false, and_self, or_self, read_relow, size_relow, low_relow, relow_relow, aLoad_relow, Nat.add_zero, Nat.mul_one, one1, Option.bind_some, ne_eq, Int.natCast_nonneg, Int.toNat_natCast, not_true_eq_false, not_false_eq_true, Option.map_some, Option.map_none, *, faG1, ldEs, one1] | (with_reducible refine sxDL_barE (by assumption) (by decide +kernel) ?_) | (with_reducible refine sxDL_bar (by decide +kernel) ?_) | (with_reducible refine sxD_bar (by decide +kernel) ?_) | fail)
    exact ⟨(elemP l'.tail).2.length, by omega, (elemP l'.tail).2, es ++ [(elemP l'.tail).1], _, rfl, hr10, by simp, ho10, hE10, hlen10⟩
  | false =>
    rw [hs] at f2
    have ha : after 43 l' = l' := by unfold after; rw [hs]; rfl
    rw [ha] at hr2
    rw [elemsP_eq l', hs, if_neg Bool.false_ne_true, List.append_nil] at hp
    have hk12 := hk.trans hk2
    have hg2 := hk2.grp hg1
    have hL2 := hk12.low hL
    have ho' := Own.ge ho (show x + 1 ≤ rs by omega) hk2.ge
    have ho2' := Own.ge ho2 (show x + 1 ≤ H.size by omega) hk2.ge
    have hE' := hE.ge (Enc.from_stable _ _) (hk2.ge.mono (show x + 1 ≤ rs + 1 by omega)) hk2.mem
    have rd2 : H2.read rs 0 2 = some [str tag, .slice a es.length es.length] := by
      have := ho'.read (o := 0) (n := 2) (by simp)
      simpa using this
    obtain ⟨H3, hR3, hr3, hk3⟩ := takes_runs hS x l' 39 39 rfl (H2.relow H2.size) (Own.addr hr2)
    have f3 := hR3.bx
    have f4 := fun H => (isTag_runs hS tag htag H).bx
    rw [hp] at form rest
    dsimp only at form rest
    rw [hp, rest]
    have form' := dec_and form
    rw [form']
    clear form form' rest hp
    generalize hH4 : H3.relow (Nat.min H2.low H3.low) = H4
    have hk4 : KeepX x H H4 := by rw [← hH4]; exact hk12.draw hk3 (.inl rfl)
    have hL4 := hk4.low hL
    have ho4 : Own H4 rs 32 [str tag, .slice a es.length es.length] := by rw [← hH4]; exact (Own.ge ho'.addr (show x + 1 ≤ rs by omega) hk3.ge).addr
    have ho42 : Own (H4.relow H4.size) H.size 32 [str [], .slice none 0 0] := by rw [← hH4]; exact (Own.ge ho2'.addr (show x + 1 ≤ H.size by omega) hk3.ge).addr.addr
    have hE4 : LstG (elemE.from (rs + 1)) 29 (rs + 1) H4 (.slice a es.length es.length) es := by
      rw [← hH4]
      exact ((hE'.low (Enc.from_stable _ _)).ge (Enc.from_stable _ _) (hk3.ge.mono (show x + 1 ≤ rs + 1 by omega)) hk3.mem).low (Enc.from_stable _ _)
    have hr4 : Rd H4 x (after 39 l') := by rw [← hH4]; exact Own.addr hr3
    have rd4 : H4.read rs 0 1 = some [str tag] := by
      have := ho4.read (o := 0) (n := 1) (by simp)
      simpa using this
    obtain ⟨is, his, hss⟩ := infoSg
    obtain ⟨H9, f9, ho9, hk9, hz9⟩ := ho42.storeX (o := 0) (t := 32) his (v := .agg ⟨[str tag, .slice a es.length es.length]⟩) (new := [str tag, .slice a es.length es.length]) rfl hss rfl (by simp)
    generalize hH10 : H9.relow (Nat.min H4.low H9.low) = H10
    have hk10 : KeepX x H H10 := by rw [← hH10]; exact hk4.draw hk9 (.inr ⟨by omega, by omega⟩)
    have hL10 := hk10.low hL
    have hr4' : Rd (H4.relow H4.size) x (after 39 l') := Own.addr hr4
    have hr10 : Rd H10 x (after 39 l') := by
      rw [← hH10]
      exact Own.addr ⟨(hk9.row x _ (by omega) (Own.lt hr4') (Own.get hr4')).1, by rw [hz9]; exact Own.lt hr4'⟩
    have hE10 : LstG (elemE.from (rs + 1)) 29 (rs + 1) H10 (.slice a es.length es.length) es := by
      rw [← hH10]
      exact ((hE4.low (Enc.from_stable _ _)).ge (Enc.from_stable _ _) (hk9.ge.mono (show H.size + 1 ≤ rs + 1 by omega)) hk9.mem).low (Enc.from_stable _ _)
    have hat : (elemsE.from H.size).At H10 es [.slice a es.length es.length] := by
      obtain ⟨r0, h1, h2⟩ := (hE10.mono (Nat.le_refl _)).sl (by omega)
      exact Enc.from_mono (show H.size ≤ rs + 1 by omega) (slice_from_at h1 h2)
    have rd10 : H10.read H.size 0 2 = some [str tag, .slice a es.length es.length] := by
      rw [← hH10]
      have := (Own.addr ho9 (l := Nat.min H4.low H9.low)).read (o := 0) (n := 2) (by simp [splice])
      simpa [splice] using this
    clear ho4 ho42 hE4 hr4 hr4' ho9 hk9 hz9 hE10 hk4
    have rd3 : H3.read rs 0 2 = some [str tag, .slice a es.length es.length] := by
      have := (Own.ge ho'.addr (show x + 1 ≤ rs by omega) hk3.ge : Own H3 rs _ _).read (o := 0) (n := 2) (by simp)
      simpa using this
    clear hR2 hR3 hs ha hr hE ho ho2 hk2 hk3 hr3 hk12 hg2 hg1 hL1 hk ho' ho2' hE'
    generalize hb : startsWith 39 l' = b at *
    clear hb
    generalize hT : decide (TagOk tag) = T at *
    repeat' (first | (with_reducible refine sxGuardB_tsp (fun h => ?_) (fun h => ?_)) | (with_reducible refine sxGuardB_fsp (fun h => ?_) (fun h => ?_)) | (with_reducible refine sxIfB_sp (fun h => ?_) (fun h => ?_)) | simp only [↓sxC_skip, ↓sxC_draw, ↓sxC_region, ↓sxC_seq, ↓bxC_cond, ↓bxC_loop, ↓sxC_block, ↓sxC_exit, ↓sxC_goto, ↓sxC_ret, ↓sxOps_nil, ↓sxOps_cons, ↓sxDraw_nil, ↓bxDraw_cons, ↓sxDL_move, ↓sxDL_assign, ↓sxDL_pick, ↓sxDL_alloc, ↓sxDL_box, ↓sxDL_build, ↓sxDL_buildSlice, ↓sxDL_insert, ↓sxDL_load, ↓sxDL_nilCheck, ↓sxDL_binOp, ↓sxDL_unOp, ↓sxDL_convert, ↓sxDL_makeInterface, ↓sxDL_makeFunc, ↓sxDL_makeMap, ↓sxDL_makeSlice, ↓sxDL_slice, ↓sxDL_fieldAddr, ↓sxDL_field, ↓sxDL_indexAddr, ↓sxDL_index, ↓sxDL_typeAssert, ↓sxDL_extract, ↓sxDL_lookup, ↓sxDL_mapUpdate, ↓sxDL_range, ↓sxDL_next, ↓sxDL_entry, ↓sxDL_mapEntry, ↓sxDL_entryStore, ↓sxD_same, ↓sxStep_none, ↓bxStep_some, ↓bxOp_move, ↓bxOp_assign, ↓bxOp_pick, ↓bxOp_alloc, ↓bxOp_box, ↓bxOp_build, ↓bxOp_buildSlice, ↓bxOp_load, ↓bxOp_store, ↓bxOp_nilCheck, ↓bxOp_bin, ↓bxOp_un, ↓bxOp_makeI, ↓bxOp_makeFunc, ↓bxOp_makeSlice, ↓bxOp_slice, ↓bxOp_fieldAddr, ↓bxOp_field, ↓bxOp_indexAddr, ↓bxOp_index, ↓bxOp_assert, ↓bxOp_extract, ↓bxOp_value, ↓bxOp_len, ↓bxOp_cap, ↓bxOp_append, ↓bxOp_copy, ↓bxOp_clear, ↓bxOp_max, ↓bxOp_min, ↓bxOp_convert, ↓sxPut_none, ↓bxPut, ↓seqQ_normal, ↓seqQ_exit, ↓seqQ_ret, ↓seqQ_goto, ↓blockQ_normal, ↓blockQ_ret, ↓blockQ_goto, ↓blockQ_exit, ↓loopQ_normal, ↓loopQ_exit, ↓loopQ_ret, ↓loopQ_goto, ↓resQ_normal, ↓resQ_ret, ↓sxRes_nil, ↓sxRes_tmp, ↓bxRes_cell, ↓upd_apply, ↓ev_tmp, ↓ev_const, ↓ev_global, ↓ev_func, ↓dstAt, ↓gval_some, binP_str, eql_str, neq_str, aConvH_int, aConvH_str, aConvH_some, aSliceH_slice, aSliceH_ptr, aSliceH_str, sxOptB_some, sxOptB_ite, mm_max, mm_min, binP_shl, binP_shr, binP_int, intBin, una_not_dec, una_nt, una_nf, una_neg, aPick_true, aPick_false, sxCallVB_fn, sxCallVB_yield, sxGuardB_u, sxGuardB_tt, sxGuardB_tf, sxGuardB_ft, sxGuardB_ff, sxIfB_t, sxIfB_f, packRes_one, packRes_two, List.map_cons, List.map_nil, List.nil_append, List.cons_append, List.append_nil, ↓reduceIte, Nat.reduceEqDiff, Nat.reduceLT, dec_T, dec_F, false_imp, true_and, and_true, true_implies, implies_true, false_and, and_false, true_or, or_true, false_or, or_false, and_self, or_self, read_relow, size_relow, low_relow, relow_relow, aLoad_relow, Nat.add_zero, Nat.mul_one, one1, Option.bind_some, ne_eq, Int.natCast_nonneg, Int.toNat_natCast, not_true_eq_false, not_false_eq_true, Option.map_some, Option.map_none, *, faG0, faG1, ldSg, ldT, one1] | (with_reducible refine sxDL_barE (by assumption) (by decide +kernel) ?_) | (with_reducible refine sxDL_bar (by decide +kernel) ?_) | (with_reducible refine sxD_bar (by decide +kernel) ?_) | fail)
    refine sxDL_lateC hH4 [0] (by decide +kernel) (by decide +kernel) (fun j hj => ?_) ?_
    · obtain rfl : j = 0 := by simpa using hj
      refine lateB_new (v := .agg ⟨[str tag, .slice a es.length es.length]⟩) rfl rfl rfl (by decide +kernel) ?_ ?_ (veq_seg tag a es.length es.length)
      · show aLoad Try.prog H2 32 (ρ 4) = _
        rw [e4, ldSg, rd2]; rfl
      · show aLoad Try.prog H3 32 (ρ 4) = _
        rw [e4, ldSg, rd3]; rfl
    cases b
    all_goals
      repeat' (first | (with_reducible refine sxGuardB_tsp (fun h => ?_) (fun h => ?_)) | (with_reducible refine sxGuardB_fsp (fun h => ?_) (fun h => ?_)) | (with_reducible refine sxIfB_sp (fun h => ?_) (fun h => ?_)) | simp only [↓sxC_skip, ↓sxC_draw, ↓sxC_region, ↓sxC_seq, ↓bxC_cond, ↓bxC_loop, ↓sxC_block, ↓sxC_exit, ↓sxC_goto, ↓sxC_ret, ↓sxOps_nil, ↓sxOps_cons, ↓sxDraw_nil, ↓bxDraw_cons, ↓sxDL_move, ↓sxDL_assign, ↓sxDL_pick, ↓sxDL_alloc, ↓sxDL_box, ↓sxDL_build, ↓sxDL_buildSlice, ↓sxDL_insert, ↓sxDL_load, ↓sxDL_nilCheck, ↓sxDL_binOp, ↓sxDL_unOp, ↓sxDL_convert, ↓sxDL_makeInterface, ↓sxDL_makeFunc, ↓sxDL_makeMap, ↓sxDL_makeSlice, ↓sxDL_slice, ↓sxDL_fieldAddr, ↓sxDL_field, ↓sxDL_indexAddr, ↓sxDL_index, ↓sxDL_typeAssert, ↓sxDL_extract, ↓sxDL_lookup, ↓sxDL_mapUpdate, ↓sxDL_range, ↓sxDL_next, ↓sxDL_entry, ↓sxDL_mapEntry, ↓sxDL_entryStore, ↓sxD_same, ↓sxStep_none, ↓bxStep_some, ↓bxOp_move, ↓bxOp_assign, ↓bxOp_pick, ↓bxOp_alloc, ↓bxOp_box, ↓bxOp_build, ↓bxOp_buildSlice, ↓bxOp_load, ↓bxOp_store, ↓bxOp_nilCheck, ↓bxOp_bin, ↓bxOp_un, ↓bxOp_makeI, ↓bxOp_makeFunc, ↓bxOp_makeSlice, ↓bxOp_slice, ↓bxOp_fieldAddr, ↓bxOp_field, ↓bxOp_indexAddr, ↓bxOp_index, ↓bxOp_assert, ↓bxOp_extract, ↓bxOp_value, ↓bxOp_len, ↓bxOp_cap, ↓bxOp_append, ↓bxOp_copy, ↓bxOp_clear, ↓bxOp_max, ↓bxOp_min, ↓bxOp_convert, ↓sxPut_none, ↓bxPut, ↓seqQ_normal, ↓seqQ_exit, ↓seqQ_ret, ↓seqQ_goto, ↓blockQ_normal, ↓blockQ_ret, ↓blockQ_goto, ↓blockQ_exit, ↓loopQ_normal, ↓loopQ_exit, ↓loopQ_ret, ↓loopQ_goto, ↓resQ_normal, ↓resQ_ret, ↓sxRes_nil, ↓sxRes_tmp, ↓bxRes_cell, ↓upd_apply, ↓ev_tmp, ↓ev_const, ↓ev_global, ↓ev_func, ↓dstAt, ↓gval_some, binP_str, eql_str, neq_str, aConvH_int, aConvH_str, aConvH_some, aSliceH_slice, aSliceH_ptr, aSliceH_str, sxOptB_some, sxOptB_ite, mm_max, mm_min, binP_shl, binP_shr, binP_int, intBin, una_not_dec, una_nt, una_nf, una_neg, aPick_true, aPick_false, sxCallVB_fn, sxCallVB_yield, sxGuardB_u, sxGuardB_tt, sxGuardB_tf, sxGuardB_ft, sxGuardB_ff, sxIfB_t, sxIfB_f, packRes_one, packRes_two, List.map_cons, List.map_nil, List.nil_append, List.cons_append, List.append_nil, ↓reduceIte, Nat.reduceEqDiff, Nat.reduceLT, dec_T, dec_F, false_imp, true_and, and_true, true_implies, implies_true, false_and, and_false, true_or, or_true, false_or, or_false, and_self, or_self, read_relow, size_relow, low_relow, relow_relow, aLoad_relow, Nat.add_zero, Nat.mul_one, one1, Option.bind_some, ne_eq, Int.natCast_nonneg, Int.toNat_natCast, not_true_eq_false, not_false_eq_true, Option.map_some, Option.map_none, *, faG0, faG1, ldSg, ldT, one1] | (with_reducible refine sxDL_barE (by assumption) (by decide +kernel) ?_) | (with_reducible refine sxDL_bar (by decide +kernel) ?_) | (with_reducible refine sxD_bar (by decide +kernel) ?_) | (with_reducible refine sxDL_callD ?_))
    · exact ⟨.slice a es.length es.length, rfl, hat⟩
    · exact ⟨.slice a es.length es.length, rfl, hat⟩
end Go.Proofs.Ytifnmlocblanbaa
