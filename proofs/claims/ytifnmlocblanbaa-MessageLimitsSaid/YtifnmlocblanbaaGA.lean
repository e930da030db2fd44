/- The law MessageLimits comes to true on the canonical machine, for all arguments; the closed example is taken as known. -/
import Derived.Test.YtifnmlocblanbaaFA
set_option linter.unusedVariables false
set_option linter.unusedSimpArgs false
set_option linter.unusedSectionVars false

namespace Go.Proofs.Ytifnmlocblanbaa
open Go Go.AM
set_option maxRecDepth 10000
set_option linter.unusedSimpArgs false
set_option linter.unusedVariables false

def sgl : Segm := ([76, 73, 78], [[[97]]])
def sgt (c : Nat) : Txt := [76, 73, 78, 43, 97, 39] ++ nls c
def tx (c : Nat) : Nat → Txt
  | 0 => []
  | n + 1 => sgt c ++ tx c n
theorem tx_snoc (c n : Nat) : tx c (n + 1) = tx c n ++ sgt c := by
  induction n with
  | zero => show sgt c ++ [] = [] ++ sgt c; simp
  | succ n ih => show sgt c ++ tx c (n + 1) = (sgt c ++ tx c n) ++ sgt c; rw [ih, List.append_assoc]
theorem tx_len (c n : Nat) : (tx c n).length = n * (6 + c) := by
  induction n with
  | zero => simp [tx]
  | succ n ih => show (sgt c ++ tx c n).length = _; rw [List.length_append, ih]; unfold sgt; rw [List.length_append, nls_len]; simp [Nat.succ_mul]; omega
theorem sgl_ok : SegOk sgl := by decide
theorem sgl_enc : encSeg sgl = [76, 73, 78, 43, 97, 39] := by decide
theorem enc_sgl : ∀ n, (encMsg (List.replicate n sgl)).length = 6 * n
  | 0 => rfl
  | n + 1 => by
    have h1 : encMsg (List.replicate (n + 1) sgl) = encSeg sgl ++ encMsg (List.replicate n sgl) := by unfold encMsg; rw [List.replicate_succ, List.flatMap_cons]
    rw [h1, List.length_append, enc_sgl n, sgl_enc]
    simp; omega
theorem parse_nls (m : List Segm) (c : Nat) (t : Txt) : parseP m (nls c ++ t) = parseP m t := by
  rw [parseP_eq m (nls c ++ t), parseP_eq m t, skip_nls]
theorem parse_tx (c : Nat) : ∀ (n : Nat) (m : List Segm), m.length ≤ 60 → parseP m (tx c n) = if m.length + n ≤ 60 then (m ++ List.replicate n sgl, 0, 0) else ([], 60, 2)
  | 0, m, hm => by
    rw [parseP_eq, if_pos (show skipP (tx c 0) = [] from rfl), Nat.add_zero, if_pos hm, List.replicate_zero, List.append_nil]
  | n + 1, m, hm => by
    obtain ⟨h1, h2, h3⟩ := encSeg_read sgl_ok (nls c ++ tx c n)
    have h0 : tx c (n + 1) = encSeg sgl ++ (nls c ++ tx c n) := by
      show ([76, 73, 78, 43, 97, 39] ++ nls c) ++ tx c n = _
      rw [sgl_enc, List.append_assoc]
    have hne : ¬ encSeg sgl ++ (nls c ++ tx c n) = [] := by
      rw [sgl_enc]; simp
    have hf : formP (encSeg sgl ++ (nls c ++ tx c n)) := ⟨by rw [h3]; rfl, by have := sgl_ok.1; rw [← h2] at this; exact this⟩
    rw [parseP_eq, h0, h1, if_neg hne, if_pos hf, h2, h3]
    by_cases h6 : m.length = 60
    · rw [if_pos (.inl h6), if_neg (by omega), h6]
    · have ih := parse_tx c n (m ++ [sgl]) (by simp; omega)
      rw [if_neg (by rintro (h | h); exact h6 h; exact h sgl_ok)]
      show parseP (m ++ [sgl]) (nls c ++ tx c n) = _
      rw [parse_nls, ih]
      have e1 : (m ++ [sgl]).length + n = m.length + (n + 1) := by simp; omega
      have e2 : m ++ [sgl] ++ List.replicate n sgl = m ++ List.replicate (n + 1) sgl := by rw [List.replicate_succ]; simp
      rw [e1, e2]
theorem ok_rep {n : Nat} : MsgOk (List.replicate n sgl) ↔ n ≤ 60 := by
  constructor
  · intro h; have := h.1; simpa using this
  · intro h
    exact ⟨by simpa using h, fun s hs => by rw [List.eq_of_mem_replicate hs]; exact sgl_ok⟩
theorem parse_only (n : Nat) : parseP [] (nls n) = ([], 0, 0) := by
  have := skip_nls n []
  rw [List.append_nil] at this
  rw [parseP_eq, this, if_pos (show skipP [] = [] from rfl)]

/-- A slice of one element, in a new row. -/
theorem one_new {α : Type} [Inhabited α] {E : Enc α} {L : Nat} {H : Heap} {x : α} {es : List Value} (hx : (E.from L).At H x es) (t : TypeId) (hL : L ≤ H.size) : ((sliceE E).from L).At (H.newExact es t) [x] [.slice (some ⟨H.size, 0, none⟩) 1 1] := by
  have hk := Keep.newExact H es t
  have ho := Own.new H es t
  have hl := (E.from L).len hx
  have hr := ho.read (o := 0) (n := es.length) (by omega)
  rw [List.drop_zero, List.take_length, hl] at hr
  refine slice_from_at (r := H.size) (o := 0) ⟨⟨_, _, rfl, fun _ => rfl⟩, fun i hi => ?_, fun _ => ho.lt, by show 1 ≤ _; decide⟩ fun _ => hL
  obtain rfl : i = 0 := by simp at hi; omega
  exact ⟨es, by rw [Nat.zero_mul]; exact hr, (E.from L).keep hk hx⟩
theorem bsT1 (H : Heap) : aBuildSlice Try.prog H 29 1 [(0, .string ⟨#[97]⟩)] = some (.slice (some ⟨H.size, 0, none⟩) 1 1, H.newExact [str [97]] 9) := by kernel_rfl
theorem bsE1 (H : Heap) (a : Option Addr) (n c : Nat) : aBuildSlice Try.prog H 30 1 [(0, .slice a n c)] = some (.slice (some ⟨H.size, 0, none⟩) 1 1, H.newExact [.slice a n c] 29) := by kernel_rfl
theorem bdS1 (a : Option Addr) (n c : Nat) : aBuild Try.prog 32 [(0, .string ⟨#[76, 73, 78]⟩), (1, .slice a n c)] = some (.agg ⟨[str [76, 73, 78], .slice a n c]⟩) := by kernel_rfl
theorem bsG1 (H : Heap) (a : Option Addr) (n c : Nat) : aBuildSlice Try.prog H 23 1 [(0, .agg ⟨[str [76, 73, 78], .slice a n c]⟩)] = some (.slice (some ⟨H.size, 0, none⟩) 1 1, H.newExact [str [76, 73, 78], .slice a n c] 32) := by kernel_rfl
/-- A segment more. -/
theorem seg_more {H : Heap} {L : Nat} {v : Value} {w : List Segm} (hg : Grp H) (hL : L ≤ H.size) (h : LstG (segE.from L) 32 L H v w) (hs : w.length ≤ 100) :
    ∃ H1 H2 v2 H3, H1 = H.newExact [str [97]] 9 ∧ H2 = H1.newExact [.slice (some ⟨H.size, 0, none⟩) 1 1] 29 ∧
      aAppend Try.prog (H2.newExact [str [76, 73, 78], .slice (some ⟨H1.size, 0, none⟩) 1 1] 32) #[23, 23] v (.slice (some ⟨H2.size, 0, none⟩) 1 1) = some (v2, H3) ∧ LstG (segE.from L) 32 L H3 v2 (w ++ [sgl]) ∧ Grow L H H3 := by
  have k1 := Keep.newExact H [str [97]] 9
  have a1 := one_new (E := txtE) (L := L) (H := H) (x := [97]) (es := [str [97]]) (txt_at (by decide)) 9 hL
  have k2 := Keep.newExact (H.newExact [str [97]] 9) [.slice (some ⟨H.size, 0, none⟩) 1 1] 29
  have a2 := one_new (E := elemE) (L := L) (es := [.slice (some ⟨H.size, 0, none⟩) 1 1]) a1 29 (Nat.le_trans hL k1.size)
  have a3 : (segE.from L).At ((H.newExact [str [97]] 9).newExact [.slice (some ⟨H.size, 0, none⟩) 1 1] 29) sgl [str [76, 73, 78], .slice (some ⟨(H.newExact [str [97]] 9).size, 0, none⟩) 1 1] := prod_from_at (c1 := [str [76, 73, 78]]) (txt_at (by decide)) a2
  obtain ⟨v2, H3, f, g, hG⟩ := ((h.keep k1).keep k2).push okG (Stable.from0 _ _) (k2.grp (k1.grp hg)) (Nat.le_trans hL (Nat.le_trans k1.size k2.size)) a3 rfl (by omega) 32
  exact ⟨_, _, v2, H3, rfl, rfl, f, g, ((k1.growG L).trans (k2.growG L)).trans hG⟩

/-! Bytes of one's own. -/
theorem mkB (H : Heap) : aMakeSlice Try.prog H 35 (.int .i64 20000) (.int .i64 20000) = some (.slice (some ⟨H.size, 0, none⟩) 20000 20000, H.newExact ((List.replicate 20000 (0 : Int)).map fun z => .int .u8 z) 5) := by
  have h2 := makeSlice_eq (P := Try.prog) (t := 35) (e := 5) (inf := Try.t5) (z := .int .u8 0) Try.underlying35 (by kernel_rfl) (by kernel_rfl) rfl (by kernel_rfl) (of_decide_eq_true (by kernel_rfl)) H .i64 .i64 (l := 20000) (by decide) (by decide)
  rw [h2]
  have h3 : Try.t5.size = 1 := by kernel_rfl
  rw [h3, Nat.mul_one, List.map_replicate]
  rfl
theorem infoU : ∃ i, Try.prog.info? 5 = some i ∧ i.size = 1 := Option.map_eq_some_iff.1 (show (Try.prog.info? 5).map (·.size) = some 1 by kernel_rfl)
def fill (i n : Nat) : List Int := List.replicate i 10 ++ List.replicate (n - i) 0
theorem fill_len {i n : Nat} (h : i ≤ n) : (fill i n).length = n := by unfold fill; simp; omega
theorem fill_set {i n : Nat} (h : i < n) : (fill i n).set i 10 = fill (i + 1) n := by
  unfold fill
  obtain ⟨d, rfl⟩ : ∃ d, n = i + (d + 1) := ⟨n - i - 1, by omega⟩
  rw [show i + (d + 1) - i = d + 1 by omega, show i + (d + 1) - (i + 1) = d by omega, List.replicate_succ, List.set_append_right _ _ (by simp)]
  simp [List.replicate_succ']
theorem stU {H : Heap} {r : Nat} {w : List Int} (h : Own H r 5 (w.map fun z => .int .u8 z)) {o : Nat} (ho : o < w.length) :
    ∃ H2, aStore Try.prog H 5 (.pointer (some ⟨r, o, none⟩)) (.int .u8 10) = some H2 ∧ Own H2 r 5 ((w.set o 10).map fun z => .int .u8 z) ∧ (∀ H0, Keep H0 H → H0.size ≤ r → Keep H0 H2) ∧ H2.size = H.size := by
  obtain ⟨i, hi, hs⟩ := infoU
  obtain ⟨H2, h1, h2, h4, _, h3⟩ := h.store (t := 5) hi (v := .int .u8 10) (new := [.int .u8 10]) rfl (hs.trans rfl) rfl (o := o) (by rw [List.length_map]; exact ho)
  rw [splice_map ho] at h2
  exact ⟨H2, h1, h2, h3, h4⟩
theorem strU {H : Heap} {r : Nat} {n : Nat} (h : Own H r 5 ((fill n n).map fun z => .int .u8 z)) : aText Try.prog H 35 9 (.slice (some ⟨r, 0, none⟩) n n) = some (str (nls n)) := by
  have e1 : (fill n n).map (fun z => Value.int .u8 z) = bts (nls n) := by
    unfold fill bts nls
    rw [Nat.sub_self, List.replicate_zero, List.append_nil, List.map_replicate, List.map_replicate]
    rfl
  rw [e1] at h
  have hl : (bts (nls n)).length = n := by unfold bts nls; simp
  have := h.read (o := 0) (n := n) (by omega)
  rw [List.drop_zero, List.take_of_length_le (by omega)] at this
  have hn := nls_len n
  have k := text_of (P := Try.prog) (H := H) (r := r) (o := 0) (c := n) (l := nls n) Try.underlying35 Try.underlying9 Try.underlying5 fun _ => by rw [hn]; exact this
  rw [hn] at k
  exact k

variable {S : AM.Sys} (hS : Only S 6)
include hS

set_option maxHeartbeats 4000000 in
/-- THE LAW, on the canonical machine. -/
theorem limits_runs (more fb : Bool) (H : Heap) (hL : H.low ≤ H.size) (hg : Grp H) (hO : ∀ H', S.O 6 [] H') : ∃ H', Runs Try.prog S (.fn 4) [.bool more, .bool fb] H (.bool true) H' := by
  suffices h : WCall Try.prog S (.fn 4) [.bool more, .bool fb] H (fun v H' => v = .bool true) by
    obtain ⟨_, H', hr, rfl⟩ := h; exact ⟨H', hr⟩
  have hmx : Go.maxLen = 9223372036854775807 := rfl
  have hk1 : ∀ (H' : Heap) (K : Value → Heap → Prop) (b : Blk K), sxCallB Try.prog S (.fn 6) [] H' K b = K (.bool true) H' := fun H' K b => known_bx (hO H')
  refine call_of Try.func4 rfl (Nat.le_of_ble_eq_true rfl) (hS.no rfl _ _) ?_
  rw [Try.ntmps4, Try.results4]
  have hcb : ∃ cb : Nat, cb = (if fb = true then 1 else 0) := ⟨_, rfl⟩
  obtain ⟨cb, hcb⟩ := hcb
  have hcb1 : cb ≤ 1 := by rw [hcb]; split <;> omega
  have hcT : fb = true → cb = 1 := fun h => by rw [hcb, if_pos h]
  have hcF : fb = false → cb = 0 := fun h => by rw [hcb, h]; rfl
  clear hcb
  clear hO
  cases more
  · have hw1 : IntKind.i64.wrap (60 + 1) = 61 := by decide
    repeat' (first | (with_reducible refine sxGuardB_tsp (fun h => ?_) (fun h => ?_)) | (with_reducible refine sxGuardB_fsp (fun h => ?_) (fun h => ?_)) | (with_reducible refine sxIfB_sp (fun h => ?_) (fun h => ?_)) | simp only [↓sxC_skip, ↓sxC_draw, ↓sxC_region, ↓sxC_seq, ↓bxC_cond, ↓bxC_loop, ↓sxC_block, ↓sxC_exit, ↓sxC_goto, ↓sxC_ret, ↓sxOps_nil, ↓sxOps_cons, ↓sxDraw_nil, ↓bxDraw_cons, ↓sxDL_move, ↓sxDL_assign, ↓sxDL_pick, ↓sxDL_alloc, ↓sxDL_box, ↓sxDL_build, ↓sxDL_buildSlice, ↓sxDL_insert, ↓sxDL_load, ↓sxDL_nilCheck, ↓sxDL_binOp, ↓sxDL_unOp, ↓sxDL_convert, ↓sxDL_makeInterface, ↓sxDL_makeFunc, ↓sxDL_makeMap, ↓sxDL_makeSlice, ↓sxDL_slice, ↓sxDL_fieldAddr, ↓sxDL_field, ↓sxDL_indexAddr, ↓sxDL_index, ↓sxDL_typeAssert, ↓sxDL_extract, ↓sxDL_lookup, ↓sxDL_mapUpdate, ↓sxDL_range, ↓sxDL_next, ↓sxDL_entry, ↓sxDL_mapEntry, ↓sxDL_entryStore, ↓sxD_same, ↓sxStep_none, ↓bxStep_some, ↓bxOp_move, ↓bxOp_assign, ↓bxOp_pick, ↓bxOp_alloc, ↓bxOp_box, ↓bxOp_build, ↓bxOp_buildSlice, ↓bxOp_load, ↓bxOp_store, ↓bxOp_nilCheck, ↓bxOp_bin, ↓bxOp_un, ↓bxOp_makeI, ↓bxOp_makeFunc, ↓bxOp_makeSlice, ↓bxOp_slice, ↓bxOp_fieldAddr, ↓bxOp_field, ↓bxOp_indexAddr, ↓bxOp_index, ↓bxOp_assert, ↓bxOp_extract, ↓bxOp_value, ↓bxOp_len, ↓bxOp_cap, ↓bxOp_append, ↓bxOp_copy, ↓bxOp_clear, ↓bxOp_max, ↓bxOp_min, ↓bxOp_convert, ↓sxPut_none, ↓bxPut, ↓seqQ_normal, ↓seqQ_exit, ↓seqQ_ret, ↓seqQ_goto, ↓blockQ_normal, ↓blockQ_ret, ↓blockQ_goto, ↓blockQ_exit, ↓loopQ_normal, ↓loopQ_exit, ↓loopQ_ret, ↓loopQ_goto, ↓resQ_normal, ↓resQ_ret, ↓sxRes_nil, ↓sxRes_tmp, ↓bxRes_cell, ↓upd_apply, ↓ev_tmp, ↓ev_const, ↓ev_global, ↓ev_func, ↓dstAt, ↓gval_some, cutQ_exit, cutQ_ret, cutQ_goto, binP_str, eql_str, neq_str, aConvH_int, aConvH_str, aConvH_some, aSliceH_slice, aSliceH_ptr, aSliceH_str, sxOptB_some, sxOptB_ite, mm_max, mm_min, binP_shl, binP_shr, binP_int, intBin, una_not_dec, una_nt, una_nf, una_neg, aPick_true, aPick_false, sxCallVB_fn, sxCallVB_yield, sxGuardB_u, sxGuardB_tt, sxGuardB_tf, sxGuardB_ft, sxGuardB_ff, sxIfB_t, sxIfB_f, packRes_one, packRes_two, List.map_cons, List.map_nil, List.nil_append, List.cons_append, List.append_nil, ↓reduceIte, Nat.reduceEqDiff, Nat.reduceLT, dec_T, dec_F, false_imp, true_and, and_true, true_implies, implies_true, false_and, and_false, true_or, or_true, false_or, or_false, and_self, or_self, read_relow, size_relow, low_relow, relow_relow, aLoad_relow, Nat.add_zero, Nat.mul_one, one1, Option.bind_some, ne_eq, Int.natCast_nonneg, Int.toNat_natCast, not_true_eq_false, not_false_eq_true, Option.map_some, Option.map_none, *, argF, List.getD_cons_zero, List.getD_cons_succ] | (with_reducible refine sxDL_barE (by assumption) (by decide +kernel) ?_) | (with_reducible refine sxDL_bar (by decide +kernel) ?_) | (with_reducible refine sxD_bar (by decide +kernel) ?_) | (with_reducible refine sxDL_callD ?_))
    refine sxL_cut 0 (fun ρ H1 => ∃ v, Grow H.size H H1 ∧ LstG (segE.from H.size) 32 H.size H1 v (List.replicate 60 sgl) ∧ ρ 0 = .bool false ∧ ρ 5 = .int .i64 60 ∧ ρ 6 = str (tx cb 60) ∧ ρ 7 = v)
      (fun m ρ H1 => ∃ (i : Nat) (v : Value), m = 60 - i ∧ i ≤ 60 ∧ Grow H.size H H1 ∧ LstG (segE.from H.size) 32 H.size H1 v (List.replicate i sgl) ∧ ρ 0 = .bool false ∧ ρ 1 = .bool fb ∧ ρ 5 = .int .i64 60 ∧ ρ 6 = str (tx cb i) ∧ ρ 7 = v ∧ ρ 8 = .int .i64 (i : Int))
      ⟨0, .slice none 0 0, rfl, Nat.zero_le _, Grow.refl _ _, LstG.nil, rfl, rfl, rfl, rfl, rfl, rfl⟩ ?_ ?_
    · rintro m ρ H1 ⟨i, v, rfl, hi, hG, hE, e0, e1, e5, e6, e7, e8⟩
      by_cases hlt : i < 60
      case neg =>
        have hlt' : ¬ (i : Int) < 60 := by omega
        have hi' : i = 60 := by omega
        subst hi'
        repeat' (first | (with_reducible refine sxGuardB_tsp (fun h => ?_) (fun h => ?_)) | (with_reducible refine sxGuardB_fsp (fun h => ?_) (fun h => ?_)) | (with_reducible refine sxIfB_sp (fun h => ?_) (fun h => ?_)) | simp only [↓sxC_skip, ↓sxC_draw, ↓sxC_region, ↓sxC_seq, ↓bxC_cond, ↓bxC_loop, ↓sxC_block, ↓sxC_exit, ↓sxC_goto, ↓sxC_ret, ↓sxOps_nil, ↓sxOps_cons, ↓sxDraw_nil, ↓bxDraw_cons, ↓sxDL_move, ↓sxDL_assign, ↓sxDL_pick, ↓sxDL_alloc, ↓sxDL_box, ↓sxDL_build, ↓sxDL_buildSlice, ↓sxDL_insert, ↓sxDL_load, ↓sxDL_nilCheck, ↓sxDL_binOp, ↓sxDL_unOp, ↓sxDL_convert, ↓sxDL_makeInterface, ↓sxDL_makeFunc, ↓sxDL_makeMap, ↓sxDL_makeSlice, ↓sxDL_slice, ↓sxDL_fieldAddr, ↓sxDL_field, ↓sxDL_indexAddr, ↓sxDL_index, ↓sxDL_typeAssert, ↓sxDL_extract, ↓sxDL_lookup, ↓sxDL_mapUpdate, ↓sxDL_range, ↓sxDL_next, ↓sxDL_entry, ↓sxDL_mapEntry, ↓sxDL_entryStore, ↓sxD_same, ↓sxStep_none, ↓bxStep_some, ↓bxOp_move, ↓bxOp_assign, ↓bxOp_pick, ↓bxOp_alloc, ↓bxOp_box, ↓bxOp_build, ↓bxOp_buildSlice, ↓bxOp_load, ↓bxOp_store, ↓bxOp_nilCheck, ↓bxOp_bin, ↓bxOp_un, ↓bxOp_makeI, ↓bxOp_makeFunc, ↓bxOp_makeSlice, ↓bxOp_slice, ↓bxOp_fieldAddr, ↓bxOp_field, ↓bxOp_indexAddr, ↓bxOp_index, ↓bxOp_assert, ↓bxOp_extract, ↓bxOp_value, ↓bxOp_len, ↓bxOp_cap, ↓bxOp_append, ↓bxOp_copy, ↓bxOp_clear, ↓bxOp_max, ↓bxOp_min, ↓bxOp_convert, ↓sxPut_none, ↓bxPut, ↓seqQ_normal, ↓seqQ_exit, ↓seqQ_ret, ↓seqQ_goto, ↓blockQ_normal, ↓blockQ_ret, ↓blockQ_goto, ↓blockQ_exit, ↓loopQ_normal, ↓loopQ_exit, ↓loopQ_ret, ↓loopQ_goto, ↓resQ_normal, ↓resQ_ret, ↓sxRes_nil, ↓sxRes_tmp, ↓bxRes_cell, ↓upd_apply, ↓ev_tmp, ↓ev_const, ↓ev_global, ↓ev_func, ↓dstAt, ↓gval_some, cutQ_exit, cutQ_ret, cutQ_goto, binP_str, eql_str, neq_str, aConvH_int, aConvH_str, aConvH_some, aSliceH_slice, aSliceH_ptr, aSliceH_str, sxOptB_some, sxOptB_ite, mm_max, mm_min, binP_shl, binP_shr, binP_int, intBin, una_not_dec, una_nt, una_nf, una_neg, aPick_true, aPick_false, sxCallVB_fn, sxCallVB_yield, sxGuardB_u, sxGuardB_tt, sxGuardB_tf, sxGuardB_ft, sxGuardB_ff, sxIfB_t, sxIfB_f, packRes_one, packRes_two, List.map_cons, List.map_nil, List.nil_append, List.cons_append, List.append_nil, ↓reduceIte, Nat.reduceEqDiff, Nat.reduceLT, dec_T, dec_F, false_imp, true_and, and_true, true_implies, implies_true, false_and, and_false, true_or, or_true, false_or, or_false, and_self, or_self, read_relow, size_relow, low_relow, relow_relow, aLoad_relow, Nat.add_zero, Nat.mul_one, one1, Option.bind_some, ne_eq, Int.natCast_nonneg, Int.toNat_natCast, not_true_eq_false, not_false_eq_true, Option.map_some, Option.map_none, *] | (with_reducible refine sxDL_barE (by assumption) (by decide +kernel) ?_) | (with_reducible refine sxDL_bar (by decide +kernel) ?_) | (with_reducible refine sxD_bar (by decide +kernel) ?_) | (with_reducible refine sxDL_callD ?_))
        exact ⟨_, hE, rfl⟩
      have hlt' : (i : Int) < 60 := by omega
      have hw := wrap_succ hlt (by omega : 60 ≤ Go.maxLen)
      have hgs := hG.ge.size
      have hsm := seg_more (hG.grp hg) hgs hE (by simp; omega)
      obtain ⟨H2, H3, v2, H4, hH2, hH3, fA, hE4, hG4⟩ := hsm
      have hrep : List.replicate i sgl ++ [sgl] = List.replicate (i + 1) sgl := List.replicate_succ'.symm
      rw [hrep] at hE4
      have hG5 := hG.trans hG4
      have fT := bsT1 H1
      rw [← hH2] at fT
      have fE := bsE1 H2 (some ⟨H1.size, 0, none⟩) 1 1
      rw [← hH3] at fE
      have hl6 := tx_len cb i
      have hl7 : i * (6 + cb) ≤ 61 * 7 := Nat.mul_le_mul (by omega) (by omega)
      have ha1 : strBin .add ⟨⟨tx cb i⟩⟩ ⟨#[76, 73, 78, 43, 97, 39]⟩ = some (str (tx cb i ++ [76, 73, 78, 43, 97, 39])) := add_str (by simp; omega)
      have htn := tx_snoc cb i
      clear hH2 hH3 hE hG4 hrep
      cases fb
      · have hc0 : cb = 0 := hcF rfl
        clear hcT hcF
        subst hc0
        have htn' : tx 0 i ++ [76, 73, 78, 43, 97, 39] = tx 0 (i + 1) := by rw [htn]; rfl
        clear htn
        repeat' (first | (with_reducible refine sxGuardB_tsp (fun h => ?_) (fun h => ?_)) | (with_reducible refine sxGuardB_fsp (fun h => ?_) (fun h => ?_)) | (with_reducible refine sxIfB_sp (fun h => ?_) (fun h => ?_)) | simp only [↓sxC_skip, ↓sxC_draw, ↓sxC_region, ↓sxC_seq, ↓bxC_cond, ↓bxC_loop, ↓sxC_block, ↓sxC_exit, ↓sxC_goto, ↓sxC_ret, ↓sxOps_nil, ↓sxOps_cons, ↓sxDraw_nil, ↓bxDraw_cons, ↓sxDL_move, ↓sxDL_assign, ↓sxDL_pick, ↓sxDL_alloc, ↓sxDL_box, ↓sxDL_build, ↓sxDL_buildSlice, ↓sxDL_insert, ↓sxDL_load, ↓sxDL_nilCheck, ↓sxDL_binOp, ↓sxDL_unOp, ↓sxDL_convert, ↓sxDL_makeInterface, ↓sxDL_makeFunc, ↓sxDL_makeMap, ↓sxDL_makeSlice, ↓sxDL_slice, ↓sxDL_fieldAddr, ↓sxDL_field, ↓sxDL_indexAddr, ↓sxDL_index, ↓sxDL_typeAssert, ↓sxDL_extract, ↓sxDL_lookup, ↓sxDL_mapUpdate, ↓sxDL_range, ↓sxDL_next, ↓sxDL_entry, ↓sxDL_mapEntry, ↓sxDL_entryStore, ↓sxD_same, ↓sxStep_none, ↓bxStep_some, ↓bxOp_move, ↓bxOp_assign, ↓bxOp_pick, ↓bxOp_alloc, ↓bxOp_box, ↓bxOp_build, ↓bxOp_buildSlice, ↓bxOp_load, ↓bxOp_store, ↓bxOp_nilCheck, ↓bxOp_bin, ↓bxOp_un, ↓bxOp_makeI, ↓bxOp_makeFunc, ↓bxOp_makeSlice, ↓bxOp_slice, ↓bxOp_fieldAddr, ↓bxOp_field, ↓bxOp_indexAddr, ↓bxOp_index, ↓bxOp_assert, ↓bxOp_extract, ↓bxOp_value, ↓bxOp_len, ↓bxOp_cap, ↓bxOp_append, ↓bxOp_copy, ↓bxOp_clear, ↓bxOp_max, ↓bxOp_min, ↓bxOp_convert, ↓sxPut_none, ↓bxPut, ↓seqQ_normal, ↓seqQ_exit, ↓seqQ_ret, ↓seqQ_goto, ↓blockQ_normal, ↓blockQ_ret, ↓blockQ_goto, ↓blockQ_exit, ↓loopQ_normal, ↓loopQ_exit, ↓loopQ_ret, ↓loopQ_goto, ↓resQ_normal, ↓resQ_ret, ↓sxRes_nil, ↓sxRes_tmp, ↓bxRes_cell, ↓upd_apply, ↓ev_tmp, ↓ev_const, ↓ev_global, ↓ev_func, ↓dstAt, ↓gval_some, cutQ_exit, cutQ_ret, cutQ_goto, binP_str, eql_str, neq_str, aConvH_int, aConvH_str, aConvH_some, aSliceH_slice, aSliceH_ptr, aSliceH_str, sxOptB_some, sxOptB_ite, mm_max, mm_min, binP_shl, binP_shr, binP_int, intBin, una_not_dec, una_nt, una_nf, una_neg, aPick_true, aPick_false, sxCallVB_fn, sxCallVB_yield, sxGuardB_u, sxGuardB_tt, sxGuardB_tf, sxGuardB_ft, sxGuardB_ff, sxIfB_t, sxIfB_f, packRes_one, packRes_two, List.map_cons, List.map_nil, List.nil_append, List.cons_append, List.append_nil, ↓reduceIte, Nat.reduceEqDiff, Nat.reduceLT, dec_T, dec_F, false_imp, true_and, and_true, true_implies, implies_true, false_and, and_false, true_or, or_true, false_or, or_false, and_self, or_self, read_relow, size_relow, low_relow, relow_relow, aLoad_relow, Nat.add_zero, Nat.mul_one, one1, Option.bind_some, ne_eq, Int.natCast_nonneg, Int.toNat_natCast, not_true_eq_false, not_false_eq_true, Option.map_some, Option.map_none, *, bdS1, bsG1] | (with_reducible refine sxDL_barE (by assumption) (by decide +kernel) ?_) | (with_reducible refine sxDL_bar (by decide +kernel) ?_) | (with_reducible refine sxD_bar (by decide +kernel) ?_) | (with_reducible refine sxDL_callD ?_))
        exact ⟨60 - (i + 1), by omega, i + 1, v2, rfl, by omega, hE4, rfl, rfl, rfl⟩
      · have hc0 : cb = 1 := hcT rfl
        clear hcT hcF
        subst hc0
        have htn' : tx 1 i ++ [76, 73, 78, 43, 97, 39] ++ [10] = tx 1 (i + 1) := by rw [htn, List.append_assoc]; rfl
        have ha2 : strBin .add ⟨⟨tx 1 i ++ [76, 73, 78, 43, 97, 39]⟩⟩ ⟨#[10]⟩ = some (str (tx 1 (i + 1))) := by rw [← htn']; exact add_str (by simp; omega)
        clear htn htn'
        repeat' (first | (with_reducible refine sxGuardB_tsp (fun h => ?_) (fun h => ?_)) | (with_reducible refine sxGuardB_fsp (fun h => ?_) (fun h => ?_)) | (with_reducible refine sxIfB_sp (fun h => ?_) (fun h => ?_)) | simp only [↓sxC_skip, ↓sxC_draw, ↓sxC_region, ↓sxC_seq, ↓bxC_cond, ↓bxC_loop, ↓sxC_block, ↓sxC_exit, ↓sxC_goto, ↓sxC_ret, ↓sxOps_nil, ↓sxOps_cons, ↓sxDraw_nil, ↓bxDraw_cons, ↓sxDL_move, ↓sxDL_assign, ↓sxDL_pick, ↓sxDL_alloc, ↓sxDL_box, ↓sxDL_build, ↓sxDL_buildSlice, ↓sxDL_insert, ↓sxDL_load, ↓sxDL_nilCheck, ↓sxDL_binOp, ↓sxDL_unOp, ↓sxDL_convert, ↓sxDL_makeInterface, ↓sxDL_makeFunc, ↓sxDL_makeMap, ↓sxDL_makeSlice, ↓sxDL_slice, ↓sxDL_fieldAddr, ↓sxDL_field, ↓sxDL_indexAddr, ↓sxDL_index, ↓sxDL_typeAssert, ↓sxDL_extract, ↓sxDL_lookup, ↓sxDL_mapUpdate, ↓sxDL_range, ↓sxDL_next, ↓sxDL_entry, ↓sxDL_mapEntry, ↓sxDL_entryStore, ↓sxD_same, ↓sxStep_none, ↓bxStep_some, ↓bxOp_move, ↓bxOp_assign, ↓bxOp_pick, ↓bxOp_alloc, ↓bxOp_box, ↓bxOp_build, ↓bxOp_buildSlice, ↓bxOp_load, ↓bxOp_store, ↓bxOp_nilCheck, ↓bxOp_bin, ↓bxOp_un, ↓bxOp_makeI, ↓bxOp_makeFunc, ↓bxOp_makeSlice, ↓bxOp_slice, ↓bxOp_fieldAddr, ↓bxOp_field, ↓bxOp_indexAddr, ↓bxOp_index, ↓bxOp_assert, ↓bxOp_extract, ↓bxOp_value, ↓bxOp_len, ↓bxOp_cap, ↓bxOp_append, ↓bxOp_copy, ↓bxOp_clear, ↓bxOp_max, ↓bxOp_min, ↓bxOp_convert, ↓sxPut_none, ↓bxPut, ↓seqQ_normal, ↓seqQ_exit, ↓seqQ_ret, ↓seqQ_goto, ↓blockQ_normal, ↓blockQ_ret, ↓blockQ_goto, ↓blockQ_exit, ↓loopQ_normal, ↓loopQ_exit, ↓loopQ_ret, ↓loopQ_goto, ↓resQ_normal, ↓resQ_ret, ↓sxRes_nil, ↓sxRes_tmp, ↓bxRes_cell, ↓upd_apply, ↓ev_tmp, ↓ev_const, ↓ev_global, ↓ev_func, ↓dstAt, ↓gval_some, cutQ_exit, cutQ_ret, cutQ_goto, binP_str, eql_str, neq_str, aConvH_int, aConvH_str, aConvH_some, aSliceH_slice, aSliceH_ptr, aSliceH_str, sxOptB_some, sxOptB_ite, mm_max, mm_min, binP_shl, binP_shr, binP_int, intBin, una_not_dec, una_nt, una_nf, una_neg, aPick_true, aPick_false, sxCallVB_fn, sxCallVB_yield, sxGuardB_u, sxGuardB_tt, sxGuardB_tf, sxGuardB_ft, sxGuardB_ff, sxIfB_t, sxIfB_f, packRes_one, packRes_two, List.map_cons, List.map_nil, List.nil_append, List.cons_append, List.append_nil, ↓reduceIte, Nat.reduceEqDiff, Nat.reduceLT, dec_T, dec_F, false_imp, true_and, and_true, true_implies, implies_true, false_and, and_false, true_or, or_true, false_or, or_false, and_self, or_self, read_relow, size_relow, low_relow, relow_relow, aLoad_relow, Nat.add_zero, Nat.mul_one, one1, Option.bind_some, ne_eq, Int.natCast_nonneg, Int.toNat_natCast, not_true_eq_false, not_false_eq_true, Option.map_some, Option.map_none, *, bdS1, bsG1] | (with_reducible refine sxDL_barE (by assumption) (by decide +kernel) ?_) | (with_reducible refine sxDL_bar (by decide +kernel) ?_) | (with_reducible refine sxD_bar (by decide +kernel) ?_) | (with_reducible refine sxDL_callD ?_))
        exact ⟨60 - (i + 1), by omega, i + 1, v2, rfl, by omega, hE4, rfl, rfl, rfl⟩
    rintro ρ H1 ⟨v, hG, hE, e0, e5, e6, rfl⟩
    have hg1 := hG.grp hg
    have hL1 := hG.low hL
    have hl6 := tx_len cb 60
    have hpr := parse_runs hS (tx cb 60) H1 hL1 hg1 (by omega)
    have hpt := parse_tx cb 60 [] (Nat.zero_le _)
    have hiv := hE.isv
    obtain ⟨a, hav⟩ := hiv
    have hsl := hE.sl (by rw [List.length_replicate]; decide)
    obtain ⟨r, hsl, _⟩ := hsl
    have hsl := hsl.weak
    rw [hav] at hsl hE
    rw [if_pos (show [].length + 60 ≤ 60 from Nat.le_refl _)] at hpt
    rw [hpt] at hpr
    obtain ⟨v2, H2, hR2, hat2, hK2⟩ := hpr
    have hat2 := at_msg' hat2
    obtain ⟨a2, c2, r2, o2, rfl, hsl2'⟩ := hat2
    replace hR2 : Runs Try.prog S (.fn 7) [str (tx cb 60)] H1 (.tuple ⟨[.slice a2 60 c2, .int .i64 0, .int .i64 0]⟩) H2 := hR2
    have f2 := hR2.bx
    clear hR2
    have hK2 := hK2
    have hg2 := hK2.grp hg1
    have hL2 := hK2.low hL1
    have hsl2 := hsl.keep hK2
    have hpp := Print_runs hS (List.replicate 60 sgl) a _ r 0 H2 hg2 hsl2
    obtain ⟨H3, hK3, hR3⟩ := hpp
    rw [if_pos (ok_rep.2 (Nat.le_refl _)), if_pos (ok_rep.2 (Nat.le_refl _))] at hR3
    have hen := enc_sgl 60
    have hsx : ∃ sx, sx = encMsg (List.replicate 60 sgl) := ⟨_, rfl⟩
    obtain ⟨sx, hsx⟩ := hsx
    rw [← hsx] at hR3 hen
    clear hsx
    have f3 := hR3.bx
    have hg3 := hK3.grp hg2
    have hL3 := hK3.low hL2
    rw [List.length_replicate] at hav f3
    have fm := mkB H3
    have ho := Own.new H3 ((List.replicate 20000 (0 : Int)).map fun z => .int .u8 z) 5
    have hkn := Keep.newExact H3 ((List.replicate 20000 (0 : Int)).map fun z => .int .u8 z) 5
    have hHn : ∃ Hn, Hn = H3.newExact ((List.replicate 20000 (0 : Int)).map fun z => .int .u8 z) 5 := ⟨_, rfl⟩
    obtain ⟨Hn, hHn⟩ := hHn
    rw [← hHn] at fm ho hkn
    clear hHn hR3 hpt hl6
    repeat' (first | (with_reducible refine sxGuardB_tsp (fun h => ?_) (fun h => ?_)) | (with_reducible refine sxGuardB_fsp (fun h => ?_) (fun h => ?_)) | (with_reducible refine sxIfB_sp (fun h => ?_) (fun h => ?_)) | simp only [↓sxC_skip, ↓sxC_draw, ↓sxC_region, ↓sxC_seq, ↓bxC_cond, ↓bxC_loop, ↓sxC_block, ↓sxC_exit, ↓sxC_goto, ↓sxC_ret, ↓sxOps_nil, ↓sxOps_cons, ↓sxDraw_nil, ↓bxDraw_cons, ↓sxDL_move, ↓sxDL_assign, ↓sxDL_pick, ↓sxDL_alloc, ↓sxDL_box, ↓sxDL_build, ↓sxDL_buildSlice, ↓sxDL_insert, ↓sxDL_load, ↓sxDL_nilCheck, ↓sxDL_binOp, ↓sxDL_unOp, ↓sxDL_convert, ↓sxDL_makeInterface, ↓sxDL_makeFunc, ↓sxDL_makeMap, ↓sxDL_makeSlice, ↓sxDL_slice, ↓sxDL_fieldAddr, ↓sxDL_field, ↓sxDL_indexAddr, ↓sxDL_index, ↓sxDL_typeAssert, ↓sxDL_extract, ↓sxDL_lookup, ↓sxDL_mapUpdate, ↓sxDL_range, ↓sxDL_next, ↓sxDL_entry, ↓sxDL_mapEntry, ↓sxDL_entryStore, ↓sxD_same, ↓sxStep_none, ↓bxStep_some, ↓bxOp_move, ↓bxOp_assign, ↓bxOp_pick, ↓bxOp_alloc, ↓bxOp_box, ↓bxOp_build, ↓bxOp_buildSlice, ↓bxOp_load, ↓bxOp_store, ↓bxOp_nilCheck, ↓bxOp_bin, ↓bxOp_un, ↓bxOp_makeI, ↓bxOp_makeFunc, ↓bxOp_makeSlice, ↓bxOp_slice, ↓bxOp_fieldAddr, ↓bxOp_field, ↓bxOp_indexAddr, ↓bxOp_index, ↓bxOp_assert, ↓bxOp_extract, ↓bxOp_value, ↓bxOp_len, ↓bxOp_cap, ↓bxOp_append, ↓bxOp_copy, ↓bxOp_clear, ↓bxOp_max, ↓bxOp_min, ↓bxOp_convert, ↓sxPut_none, ↓bxPut, ↓seqQ_normal, ↓seqQ_exit, ↓seqQ_ret, ↓seqQ_goto, ↓blockQ_normal, ↓blockQ_ret, ↓blockQ_goto, ↓blockQ_exit, ↓loopQ_normal, ↓loopQ_exit, ↓loopQ_ret, ↓loopQ_goto, ↓resQ_normal, ↓resQ_ret, ↓sxRes_nil, ↓sxRes_tmp, ↓bxRes_cell, ↓upd_apply, ↓ev_tmp, ↓ev_const, ↓ev_global, ↓ev_func, ↓dstAt, ↓gval_some, cutQ_exit, cutQ_ret, cutQ_goto, binP_str, eql_str, neq_str, aConvH_int, aConvH_str, aConvH_some, aSliceH_slice, aSliceH_ptr, aSliceH_str, sxOptB_some, sxOptB_ite, mm_max, mm_min, binP_shl, binP_shr, binP_int, intBin, una_not_dec, una_nt, una_nf, una_neg, aPick_true, aPick_false, sxCallVB_fn, sxCallVB_yield, sxGuardB_u, sxGuardB_tt, sxGuardB_tf, sxGuardB_ft, sxGuardB_ff, sxIfB_t, sxIfB_f, packRes_one, packRes_two, List.map_cons, List.map_nil, List.nil_append, List.cons_append, List.append_nil, ↓reduceIte, Nat.reduceEqDiff, Nat.reduceLT, dec_T, dec_F, false_imp, true_and, and_true, true_implies, implies_true, false_and, and_false, true_or, or_true, false_or, or_false, and_self, or_self, read_relow, size_relow, low_relow, relow_relow, aLoad_relow, Nat.add_zero, Nat.mul_one, one1, Option.bind_some, ne_eq, Int.natCast_nonneg, Int.toNat_natCast, not_true_eq_false, not_false_eq_true, Option.map_some, Option.map_none, *, ex0, ex1, fx30, fx31, fx32] | (with_reducible refine sxDL_barE (by assumption) (by decide +kernel) ?_) | (with_reducible refine sxDL_bar (by decide +kernel) ?_) | (with_reducible refine sxD_bar (by decide +kernel) ?_) | (with_reducible refine sxDL_callD ?_))
    refine sxL_of (fun m ρ H4 => ∃ (i : Nat), m = 20000 - i ∧ i ≤ 20000 ∧ Keep H3 H4 ∧ Own H4 H3.size 5 ((fill i 20000).map fun z => .int .u8 z) ∧ ρ 5 = .int .i64 60 ∧ ρ 0 = .bool false ∧ ρ 7 = .slice a 60 60 ∧ ρ 9 = .slice a2 60 c2 ∧ ρ 10 = .int .i64 0 ∧ ρ 11 = .int .i64 0 ∧ ρ 12 = str sx ∧ ρ 13 = .int .i64 0 ∧ ρ 14 = .slice (some ⟨H3.size, 0, none⟩) 20000 20000 ∧ ρ 15 = .int .i64 (i : Int))
      ⟨0, rfl, Nat.zero_le _, hkn, ho, e5, e0, hav, rfl, rfl, rfl, rfl, rfl, rfl, rfl⟩ ?_
    clear ho hkn fm f2 f3 e0 e5 e6 hav
    rintro m ρ H4 ⟨i, rfl, hi, hK4, hO4, e5, e0, e7, e9, e10, e11, e12, e13, e14, e15⟩
    by_cases hlt : i < 20000
    · have hlt' : (i : Int) < 20000 := by omega
      have hlt2 : (i : Int) < ((20000 : Nat) : Int) := by omega
      have hw := wrap_succ hlt (by omega : 20000 ≤ Go.maxLen)
      have hix : aIndexAt Try.prog 35 (.slice (some ⟨H3.size, 0, none⟩) 20000 20000) (.int .i64 (i : Int)) = some (.pointer (some ⟨H3.size, i, none⟩)) := by rw [ixU, if_pos ⟨by omega, hlt'⟩, Int.toNat_natCast, Nat.mul_one, Nat.zero_add]
      have hst := stU hO4 (o := i) (by rw [fill_len (by omega)]; exact hlt)
      obtain ⟨H5, fs, hO5, hK5, _⟩ := hst
      rw [fill_set hlt] at hO5
      have hK5 := hK5 H3 hK4 (Nat.le_refl _)
      clear hO4 hK4
      repeat' (first | (with_reducible refine sxGuardB_tsp (fun h => ?_) (fun h => ?_)) | (with_reducible refine sxGuardB_fsp (fun h => ?_) (fun h => ?_)) | (with_reducible refine sxIfB_sp (fun h => ?_) (fun h => ?_)) | simp only [↓sxC_skip, ↓sxC_draw, ↓sxC_region, ↓sxC_seq, ↓bxC_cond, ↓bxC_loop, ↓sxC_block, ↓sxC_exit, ↓sxC_goto, ↓sxC_ret, ↓sxOps_nil, ↓sxOps_cons, ↓sxDraw_nil, ↓bxDraw_cons, ↓sxDL_move, ↓sxDL_assign, ↓sxDL_pick, ↓sxDL_alloc, ↓sxDL_box, ↓sxDL_build, ↓sxDL_buildSlice, ↓sxDL_insert, ↓sxDL_load, ↓sxDL_nilCheck, ↓sxDL_binOp, ↓sxDL_unOp, ↓sxDL_convert, ↓sxDL_makeInterface, ↓sxDL_makeFunc, ↓sxDL_makeMap, ↓sxDL_makeSlice, ↓sxDL_slice, ↓sxDL_fieldAddr, ↓sxDL_field, ↓sxDL_indexAddr, ↓sxDL_index, ↓sxDL_typeAssert, ↓sxDL_extract, ↓sxDL_lookup, ↓sxDL_mapUpdate, ↓sxDL_range, ↓sxDL_next, ↓sxDL_entry, ↓sxDL_mapEntry, ↓sxDL_entryStore, ↓sxD_same, ↓sxStep_none, ↓bxStep_some, ↓bxOp_move, ↓bxOp_assign, ↓bxOp_pick, ↓bxOp_alloc, ↓bxOp_box, ↓bxOp_build, ↓bxOp_buildSlice, ↓bxOp_load, ↓bxOp_store, ↓bxOp_nilCheck, ↓bxOp_bin, ↓bxOp_un, ↓bxOp_makeI, ↓bxOp_makeFunc, ↓bxOp_makeSlice, ↓bxOp_slice, ↓bxOp_fieldAddr, ↓bxOp_field, ↓bxOp_indexAddr, ↓bxOp_index, ↓bxOp_assert, ↓bxOp_extract, ↓bxOp_value, ↓bxOp_len, ↓bxOp_cap, ↓bxOp_append, ↓bxOp_copy, ↓bxOp_clear, ↓bxOp_max, ↓bxOp_min, ↓bxOp_convert, ↓sxPut_none, ↓bxPut, ↓seqQ_normal, ↓seqQ_exit, ↓seqQ_ret, ↓seqQ_goto, ↓blockQ_normal, ↓blockQ_ret, ↓blockQ_goto, ↓blockQ_exit, ↓loopQ_normal, ↓loopQ_exit, ↓loopQ_ret, ↓loopQ_goto, ↓resQ_normal, ↓resQ_ret, ↓sxRes_nil, ↓sxRes_tmp, ↓bxRes_cell, ↓upd_apply, ↓ev_tmp, ↓ev_const, ↓ev_global, ↓ev_func, ↓dstAt, ↓gval_some, cutQ_exit, cutQ_ret, cutQ_goto, binP_str, eql_str, neq_str, aConvH_int, aConvH_str, aConvH_some, aSliceH_slice, aSliceH_ptr, aSliceH_str, sxOptB_some, sxOptB_ite, mm_max, mm_min, binP_shl, binP_shr, binP_int, intBin, una_not_dec, una_nt, una_nf, una_neg, aPick_true, aPick_false, sxCallVB_fn, sxCallVB_yield, sxGuardB_u, sxGuardB_tt, sxGuardB_tf, sxGuardB_ft, sxGuardB_ff, sxIfB_t, sxIfB_f, packRes_one, packRes_two, List.map_cons, List.map_nil, List.nil_append, List.cons_append, List.append_nil, ↓reduceIte, Nat.reduceEqDiff, Nat.reduceLT, dec_T, dec_F, false_imp, true_and, and_true, true_implies, implies_true, false_and, and_false, true_or, or_true, false_or, or_false, and_self, or_self, read_relow, size_relow, low_relow, relow_relow, aLoad_relow, Nat.add_zero, Nat.mul_one, one1, Option.bind_some, ne_eq, Int.natCast_nonneg, Int.toNat_natCast, not_true_eq_false, not_false_eq_true, Option.map_some, Option.map_none, *, lenU] | (with_reducible refine sxDL_barE (by assumption) (by decide +kernel) ?_) | (with_reducible refine sxDL_bar (by decide +kernel) ?_) | (with_reducible refine sxD_bar (by decide +kernel) ?_) | (with_reducible refine sxDL_callD ?_))
      exact ⟨_, by omega, i + 1, rfl, by omega, hO5, rfl⟩
    have hi' : i = 20000 := by omega
    subst hi'
    have hn : ¬ (((20000 : Nat) : Int) < 20000) := by omega
    have hn2 : ¬ (((20000 : Nat) : Int) < ((20000 : Nat) : Int)) := by omega
    have z0 : ((0 : Nat) : Int) = 0 := rfl
    have hsu := strU hO4
    have hg4 := hK4.grp hg3
    have hL4 := hK4.low hL3
    have hpn := parse_runs hS (nls 20000) H4 hL4 hg4 (by rw [nls_len]; exact Nat.le_refl _)
    rw [parse_only] at hpn
    obtain ⟨v5, H5, hR5, hat5, hK5⟩ := hpn
    have hat5 := at_msg' hat5
    obtain ⟨a5, c5, r5, o5, rfl, hsl5⟩ := hat5
    replace hR5 : Runs Try.prog S (.fn 7) [str (nls 20000)] H4 (.tuple ⟨[.slice a5 0 c5, .int .i64 0, .int .i64 0]⟩) H5 := hR5
    have f5 := hR5.bx
    have hO5 := hO4.keep hK5
    have hsu5 := strU hO5
    have ha5 : strBin .add ⟨⟨nls 20000⟩⟩ ⟨#[10]⟩ = some (str (nls 20001)) := by
      rw [show nls 20001 = nls 20000 ++ [10] from nls_succ 20000]
      exact add_str (by rw [nls_len]; decide)
    have f6 := (parse_long hS (nls 20001) H5 (by rw [nls_len]; decide)).bx
    have hK25 := (hK3.trans hK4).trans hK5
    have f7 := (messages_runs hS (List.replicate 60 sgl) (List.replicate 60 sgl) a2 a c2 _ r2 r o2 0 H5 (hK5.low hL4) (hsl2'.keep hK25) (hsl2.keep hK25)).bx
    rw [List.length_replicate] at f7
    have dd : decide (List.replicate 60 sgl = List.replicate 60 sgl) = true := decide_eq_true rfl
    clear hsl hsl2 hsl2' hK25
    have h360 : ((sx.length : Nat) : Int) = 360 := by omega
    clear hen
    have hw6 : IntKind.i64.wrap (6 * 60) = 360 := by decide
    clear hR5 hsl5 hO4 hO5
    repeat' (first | (with_reducible refine sxGuardB_tsp (fun h => ?_) (fun h => ?_)) | (with_reducible refine sxGuardB_fsp (fun h => ?_) (fun h => ?_)) | (with_reducible refine sxIfB_sp (fun h => ?_) (fun h => ?_)) | simp only [↓sxC_skip, ↓sxC_draw, ↓sxC_region, ↓sxC_seq, ↓bxC_cond, ↓bxC_loop, ↓sxC_block, ↓sxC_exit, ↓sxC_goto, ↓sxC_ret, ↓sxOps_nil, ↓sxOps_cons, ↓sxDraw_nil, ↓bxDraw_cons, ↓sxDL_move, ↓sxDL_assign, ↓sxDL_pick, ↓sxDL_alloc, ↓sxDL_box, ↓sxDL_build, ↓sxDL_buildSlice, ↓sxDL_insert, ↓sxDL_load, ↓sxDL_nilCheck, ↓sxDL_binOp, ↓sxDL_unOp, ↓sxDL_convert, ↓sxDL_makeInterface, ↓sxDL_makeFunc, ↓sxDL_makeMap, ↓sxDL_makeSlice, ↓sxDL_slice, ↓sxDL_fieldAddr, ↓sxDL_field, ↓sxDL_indexAddr, ↓sxDL_index, ↓sxDL_typeAssert, ↓sxDL_extract, ↓sxDL_lookup, ↓sxDL_mapUpdate, ↓sxDL_range, ↓sxDL_next, ↓sxDL_entry, ↓sxDL_mapEntry, ↓sxDL_entryStore, ↓sxD_same, ↓sxStep_none, ↓bxStep_some, ↓bxOp_move, ↓bxOp_assign, ↓bxOp_pick, ↓bxOp_alloc, ↓bxOp_box, ↓bxOp_build, ↓bxOp_buildSlice, ↓bxOp_load, ↓bxOp_store, ↓bxOp_nilCheck, ↓bxOp_bin, ↓bxOp_un, ↓bxOp_makeI, ↓bxOp_makeFunc, ↓bxOp_makeSlice, ↓bxOp_slice, ↓bxOp_fieldAddr, ↓bxOp_field, ↓bxOp_indexAddr, ↓bxOp_index, ↓bxOp_assert, ↓bxOp_extract, ↓bxOp_value, ↓bxOp_len, ↓bxOp_cap, ↓bxOp_append, ↓bxOp_copy, ↓bxOp_clear, ↓bxOp_max, ↓bxOp_min, ↓bxOp_convert, ↓sxPut_none, ↓bxPut, ↓seqQ_normal, ↓seqQ_exit, ↓seqQ_ret, ↓seqQ_goto, ↓blockQ_normal, ↓blockQ_ret, ↓blockQ_goto, ↓blockQ_exit, ↓loopQ_normal, ↓loopQ_exit, ↓loopQ_ret, ↓loopQ_goto, ↓resQ_normal, ↓resQ_ret, ↓sxRes_nil, ↓sxRes_tmp, ↓bxRes_cell, ↓upd_apply, ↓ev_tmp, ↓ev_const, ↓ev_global, ↓ev_func, ↓dstAt, ↓gval_some, cutQ_exit, cutQ_ret, cutQ_goto, binP_str, eql_str, neq_str, aConvH_int, aConvH_str, aConvH_some, aSliceH_slice, aSliceH_ptr, aSliceH_str, sxOptB_some, sxOptB_ite, mm_max, mm_min, binP_shl, binP_shr, binP_int, intBin, una_not_dec, una_nt, una_nf, una_neg, aPick_true, aPick_false, sxCallVB_fn, sxCallVB_yield, sxGuardB_u, sxGuardB_tt, sxGuardB_tf, sxGuardB_ft, sxGuardB_ff, sxIfB_t, sxIfB_f, packRes_one, packRes_two, List.map_cons, List.map_nil, List.nil_append, List.cons_append, List.append_nil, ↓reduceIte, Nat.reduceEqDiff, Nat.reduceLT, dec_T, dec_F, false_imp, true_and, and_true, true_implies, implies_true, false_and, and_false, true_or, or_true, false_or, or_false, and_self, or_self, read_relow, size_relow, low_relow, relow_relow, aLoad_relow, Nat.add_zero, Nat.mul_one, one1, Option.bind_some, ne_eq, Int.natCast_nonneg, Int.toNat_natCast, not_true_eq_false, not_false_eq_true, Option.map_some, Option.map_none, *, lenU, lenG, lenS, ex0, ex1, fx30, fx31, fx32] | (with_reducible refine sxDL_barE (by assumption) (by decide +kernel) ?_) | (with_reducible refine sxDL_bar (by decide +kernel) ?_) | (with_reducible refine sxD_bar (by decide +kernel) ?_) | (with_reducible refine sxDL_callD ?_))

  · have hw1 : IntKind.i64.wrap (60 + 1) = 61 := by decide
    repeat' (first | (with_reducible refine sxGuardB_tsp (fun h => ?_) (fun h => ?_)) | (with_reducible refine sxGuardB_fsp (fun h => ?_) (fun h => ?_)) | (with_reducible refine sxIfB_sp (fun h => ?_) (fun h => ?_)) | simp only [↓sxC_skip, ↓sxC_draw, ↓sxC_region, ↓sxC_seq, ↓bxC_cond, ↓bxC_loop, ↓sxC_block, ↓sxC_exit, ↓sxC_goto, ↓sxC_ret, ↓sxOps_nil, ↓sxOps_cons, ↓sxDraw_nil, ↓bxDraw_cons, ↓sxDL_move, ↓sxDL_assign, ↓sxDL_pick, ↓sxDL_alloc, ↓sxDL_box, ↓sxDL_build, ↓sxDL_buildSlice, ↓sxDL_insert, ↓sxDL_load, ↓sxDL_nilCheck, ↓sxDL_binOp, ↓sxDL_unOp, ↓sxDL_convert, ↓sxDL_makeInterface, ↓sxDL_makeFunc, ↓sxDL_makeMap, ↓sxDL_makeSlice, ↓sxDL_slice, ↓sxDL_fieldAddr, ↓sxDL_field, ↓sxDL_indexAddr, ↓sxDL_index, ↓sxDL_typeAssert, ↓sxDL_extract, ↓sxDL_lookup, ↓sxDL_mapUpdate, ↓sxDL_range, ↓sxDL_next, ↓sxDL_entry, ↓sxDL_mapEntry, ↓sxDL_entryStore, ↓sxD_same, ↓sxStep_none, ↓bxStep_some, ↓bxOp_move, ↓bxOp_assign, ↓bxOp_pick, ↓bxOp_alloc, ↓bxOp_box, ↓bxOp_build, ↓bxOp_buildSlice, ↓bxOp_load, ↓bxOp_store, ↓bxOp_nilCheck, ↓bxOp_bin, ↓bxOp_un, ↓bxOp_makeI, ↓bxOp_makeFunc, ↓bxOp_makeSlice, ↓bxOp_slice, ↓bxOp_fieldAddr, ↓bxOp_field, ↓bxOp_indexAddr, ↓bxOp_index, ↓bxOp_assert, ↓bxOp_extract, ↓bxOp_value, ↓bxOp_len, ↓bxOp_cap, ↓bxOp_append, ↓bxOp_copy, ↓bxOp_clear, ↓bxOp_max, ↓bxOp_min, ↓bxOp_convert, ↓sxPut_none, ↓bxPut, ↓seqQ_normal, ↓seqQ_exit, ↓seqQ_ret, ↓seqQ_goto, ↓blockQ_normal, ↓blockQ_ret, ↓blockQ_goto, ↓blockQ_exit, ↓loopQ_normal, ↓loopQ_exit, ↓loopQ_ret, ↓loopQ_goto, ↓resQ_normal, ↓resQ_ret, ↓sxRes_nil, ↓sxRes_tmp, ↓bxRes_cell, ↓upd_apply, ↓ev_tmp, ↓ev_const, ↓ev_global, ↓ev_func, ↓dstAt, ↓gval_some, cutQ_exit, cutQ_ret, cutQ_goto, binP_str, eql_str, neq_str, aConvH_int, aConvH_str, aConvH_some, aSliceH_slice, aSliceH_ptr, aSliceH_str, sxOptB_some, sxOptB_ite, mm_max, mm_min, binP_shl, binP_shr, binP_int, intBin, una_not_dec, una_nt, una_nf, una_neg, aPick_true, aPick_false, sxCallVB_fn, sxCallVB_yield, sxGuardB_u, sxGuardB_tt, sxGuardB_tf, sxGuardB_ft, sxGuardB_ff, sxIfB_t, sxIfB_f, packRes_one, packRes_two, List.map_cons, List.map_nil, List.nil_append, List.cons_append, List.append_nil, ↓reduceIte, Nat.reduceEqDiff, Nat.reduceLT, dec_T, dec_F, false_imp, true_and, and_true, true_implies, implies_true, false_and, and_false, true_or, or_true, false_or, or_false, and_self, or_self, read_relow, size_relow, low_relow, relow_relow, aLoad_relow, Nat.add_zero, Nat.mul_one, one1, Option.bind_some, ne_eq, Int.natCast_nonneg, Int.toNat_natCast, not_true_eq_false, not_false_eq_true, Option.map_some, Option.map_none, *, argF, List.getD_cons_zero, List.getD_cons_succ] | (with_reducible refine sxDL_barE (by assumption) (by decide +kernel) ?_) | (with_reducible refine sxDL_bar (by decide +kernel) ?_) | (with_reducible refine sxD_bar (by decide +kernel) ?_) | (with_reducible refine sxDL_callD ?_))
    refine sxL_cut 0 (fun ρ H1 => ∃ v, Grow H.size H H1 ∧ LstG (segE.from H.size) 32 H.size H1 v (List.replicate 61 sgl) ∧ ρ 0 = .bool true ∧ ρ 5 = .int .i64 61 ∧ ρ 6 = str (tx cb 61) ∧ ρ 7 = v)
      (fun m ρ H1 => ∃ (i : Nat) (v : Value), m = 61 - i ∧ i ≤ 61 ∧ Grow H.size H H1 ∧ LstG (segE.from H.size) 32 H.size H1 v (List.replicate i sgl) ∧ ρ 0 = .bool true ∧ ρ 1 = .bool fb ∧ ρ 5 = .int .i64 61 ∧ ρ 6 = str (tx cb i) ∧ ρ 7 = v ∧ ρ 8 = .int .i64 (i : Int))
      ⟨0, .slice none 0 0, rfl, Nat.zero_le _, Grow.refl _ _, LstG.nil, rfl, rfl, rfl, rfl, rfl, rfl⟩ ?_ ?_
    · rintro m ρ H1 ⟨i, v, rfl, hi, hG, hE, e0, e1, e5, e6, e7, e8⟩
      by_cases hlt : i < 61
      case neg =>
        have hlt' : ¬ (i : Int) < 61 := by omega
        have hi' : i = 61 := by omega
        subst hi'
        repeat' (first | (with_reducible refine sxGuardB_tsp (fun h => ?_) (fun h => ?_)) | (with_reducible refine sxGuardB_fsp (fun h => ?_) (fun h => ?_)) | (with_reducible refine sxIfB_sp (fun h => ?_) (fun h => ?_)) | simp only [↓sxC_skip, ↓sxC_draw, ↓sxC_region, ↓sxC_seq, ↓bxC_cond, ↓bxC_loop, ↓sxC_block, ↓sxC_exit, ↓sxC_goto, ↓sxC_ret, ↓sxOps_nil, ↓sxOps_cons, ↓sxDraw_nil, ↓bxDraw_cons, ↓sxDL_move, ↓sxDL_assign, ↓sxDL_pick, ↓sxDL_alloc, ↓sxDL_box, ↓sxDL_build, ↓sxDL_buildSlice, ↓sxDL_insert, ↓sxDL_load, ↓sxDL_nilCheck, ↓sxDL_binOp, ↓sxDL_unOp, ↓sxDL_convert, ↓sxDL_makeInterface, ↓sxDL_makeFunc, ↓sxDL_makeMap, ↓sxDL_makeSlice, ↓sxDL_slice, ↓sxDL_fieldAddr, ↓sxDL_field, ↓sxDL_indexAddr, ↓sxDL_index, ↓sxDL_typeAssert, ↓sxDL_extract, ↓sxDL_lookup, ↓sxDL_mapUpdate, ↓sxDL_range, ↓sxDL_next, ↓sxDL_entry, ↓sxDL_mapEntry, ↓sxDL_entryStore, ↓sxD_same, ↓sxStep_none, ↓bxStep_some, ↓bxOp_move, ↓bxOp_assign, ↓bxOp_pick, ↓bxOp_alloc, ↓bxOp_box, ↓bxOp_build, ↓bxOp_buildSlice, ↓bxOp_load, ↓bxOp_store, ↓bxOp_nilCheck, ↓bxOp_bin, ↓bxOp_un, ↓bxOp_makeI, ↓bxOp_makeFunc, ↓bxOp_makeSlice, ↓bxOp_slice, ↓bxOp_fieldAddr, ↓bxOp_field, ↓bxOp_indexAddr, ↓bxOp_index, ↓bxOp_assert, ↓bxOp_extract, ↓bxOp_value, ↓bxOp_len, ↓bxOp_cap, ↓bxOp_append, ↓bxOp_copy, ↓bxOp_clear, ↓bxOp_max, ↓bxOp_min, ↓bxOp_convert, ↓sxPut_none, ↓bxPut, ↓seqQ_normal, ↓seqQ_exit, ↓seqQ_ret, ↓seqQ_goto, ↓blockQ_normal, ↓blockQ_ret, ↓blockQ_goto, ↓blockQ_exit, ↓loopQ_normal, ↓loopQ_exit, ↓loopQ_ret, ↓loopQ_goto, ↓resQ_normal, ↓resQ_ret, ↓sxRes_nil, ↓sxRes_tmp, ↓bxRes_cell, ↓upd_apply, ↓ev_tmp, ↓ev_const, ↓ev_global, ↓ev_func, ↓dstAt, ↓gval_some, cutQ_exit, cutQ_ret, cutQ_goto, binP_str, eql_str, neq_str, aConvH_int, aConvH_str, aConvH_some, aSliceH_slice, aSliceH_ptr, aSliceH_str, sxOptB_some, sxOptB_ite, mm_max, mm_min, binP_shl, binP_shr, binP_int, intBin, una_not_dec, una_nt, una_nf, una_neg, aPick_true, aPick_false, sxCallVB_fn, sxCallVB_yield, sxGuardB_u, sxGuardB_tt, sxGuardB_tf, sxGuardB_ft, sxGuardB_ff, sxIfB_t, sxIfB_f, packRes_one, packRes_two, List.map_cons, List.map_nil, List.nil_append, List.cons_append, List.append_nil, ↓reduceIte, Nat.reduceEqDiff, Nat.reduceLT, dec_T, dec_F, false_imp, true_and, and_true, true_implies, implies_true, false_and, and_false, true_or, or_true, false_or, or_false, and_self, or_self, read_relow, size_relow, low_relow, relow_relow, aLoad_relow, Nat.add_zero, Nat.mul_one, one1, Option.bind_some, ne_eq, Int.natCast_nonneg, Int.toNat_natCast, not_true_eq_false, not_false_eq_true, Option.map_some, Option.map_none, *] | (with_reducible refine sxDL_barE (by assumption) (by decide +kernel) ?_) | (with_reducible refine sxDL_bar (by decide +kernel) ?_) | (with_reducible refine sxD_bar (by decide +kernel) ?_) | (with_reducible refine sxDL_callD ?_))
        exact ⟨_, hE, rfl⟩
      have hlt' : (i : Int) < 61 := by omega
      have hw := wrap_succ hlt (by omega : 61 ≤ Go.maxLen)
      have hgs := hG.ge.size
      have hsm := seg_more (hG.grp hg) hgs hE (by simp; omega)
      obtain ⟨H2, H3, v2, H4, hH2, hH3, fA, hE4, hG4⟩ := hsm
      have hrep : List.replicate i sgl ++ [sgl] = List.replicate (i + 1) sgl := List.replicate_succ'.symm
      rw [hrep] at hE4
      have hG5 := hG.trans hG4
      have fT := bsT1 H1
      rw [← hH2] at fT
      have fE := bsE1 H2 (some ⟨H1.size, 0, none⟩) 1 1
      rw [← hH3] at fE
      have hl6 := tx_len cb i
      have hl7 : i * (6 + cb) ≤ 61 * 7 := Nat.mul_le_mul (by omega) (by omega)
      have ha1 : strBin .add ⟨⟨tx cb i⟩⟩ ⟨#[76, 73, 78, 43, 97, 39]⟩ = some (str (tx cb i ++ [76, 73, 78, 43, 97, 39])) := add_str (by simp; omega)
      have htn := tx_snoc cb i
      clear hH2 hH3 hE hG4 hrep
      cases fb
      · have hc0 : cb = 0 := hcF rfl
        clear hcT hcF
        subst hc0
        have htn' : tx 0 i ++ [76, 73, 78, 43, 97, 39] = tx 0 (i + 1) := by rw [htn]; rfl
        clear htn
        repeat' (first | (with_reducible refine sxGuardB_tsp (fun h => ?_) (fun h => ?_)) | (with_reducible refine sxGuardB_fsp (fun h => ?_) (fun h => ?_)) | (with_reducible refine sxIfB_sp (fun h => ?_) (fun h => ?_)) | simp only [↓sxC_skip, ↓sxC_draw, ↓sxC_region, ↓sxC_seq, ↓bxC_cond, ↓bxC_loop, ↓sxC_block, ↓sxC_exit, ↓sxC_goto, ↓sxC_ret, ↓sxOps_nil, ↓sxOps_cons, ↓sxDraw_nil, ↓bxDraw_cons, ↓sxDL_move, ↓sxDL_assign, ↓sxDL_pick, ↓sxDL_alloc, ↓sxDL_box, ↓sxDL_build, ↓sxDL_buildSlice, ↓sxDL_insert, ↓sxDL_load, ↓sxDL_nilCheck, ↓sxDL_binOp, ↓sxDL_unOp, ↓sxDL_convert, ↓sxDL_makeInterface, ↓sxDL_makeFunc, ↓sxDL_makeMap, ↓sxDL_makeSlice, ↓sxDL_slice, ↓sxDL_fieldAddr, ↓sxDL_field, ↓sxDL_indexAddr, ↓sxDL_index, ↓sxDL_typeAssert, ↓sxDL_extract, ↓sxDL_lookup, ↓sxDL_mapUpdate, ↓sxDL_range, ↓sxDL_next, ↓sxDL_entry, ↓sxDL_mapEntry, ↓sxDL_entryStore, ↓sxD_same, ↓sxStep_none, ↓bxStep_some, ↓bxOp_move, ↓bxOp_assign, ↓bxOp_pick, ↓bxOp_alloc, ↓bxOp_box, ↓bxOp_build, ↓bxOp_buildSlice, ↓bxOp_load, ↓bxOp_store, ↓bxOp_nilCheck, ↓bxOp_bin, ↓bxOp_un, ↓bxOp_makeI, ↓bxOp_makeFunc, ↓bxOp_makeSlice, ↓bxOp_slice, ↓bxOp_fieldAddr, ↓bxOp_field, ↓bxOp_indexAddr, ↓bxOp_index, ↓bxOp_assert, ↓bxOp_extract, ↓bxOp_value, ↓bxOp_len, ↓bxOp_cap, ↓bxOp_append, ↓bxOp_copy, ↓bxOp_clear, ↓bxOp_max, ↓bxOp_min, ↓bxOp_convert, ↓sxPut_none, ↓bxPut, ↓seqQ_normal, ↓seqQ_exit, ↓seqQ_ret, ↓seqQ_goto, ↓blockQ_normal, ↓blockQ_ret, ↓blockQ_goto, ↓blockQ_exit, ↓loopQ_normal, ↓loopQ_exit, ↓loopQ_ret, ↓loopQ_goto, ↓resQ_normal, ↓resQ_ret, ↓sxRes_nil, ↓sxRes_tmp, ↓bxRes_cell, ↓upd_apply, ↓ev_tmp, ↓ev_const, ↓ev_global, ↓ev_func, ↓dstAt, ↓gval_some, cutQ_exit, cutQ_ret, cutQ_goto, binP_str, eql_str, neq_str, aConvH_int, aConvH_str, aConvH_some, aSliceH_slice, aSliceH_ptr, aSliceH_str, sxOptB_some, sxOptB_ite, mm_max, mm_min, binP_shl, binP_shr, binP_int, intBin, una_not_dec, una_nt, una_nf, una_neg, aPick_true, aPick_false, sxCallVB_fn, sxCallVB_yield, sxGuardB_u, sxGuardB_tt, sxGuardB_tf, sxGuardB_ft, sxGuardB_ff, sxIfB_t, sxIfB_f, packRes_one, packRes_two, List.map_cons, List.map_nil, List.nil_append, List.cons_append, List.append_nil, ↓reduceIte, Nat.reduceEqDiff, Nat.reduceLT, dec_T, dec_F, false_imp, true_and, and_true, true_implies, implies_true, false_and, and_false, true_or, or_true, false_or, or_false, and_self, or_self, read_relow, size_relow, low_relow, relow_relow, aLoad_relow, Nat.add_zero, Nat.mul_one, one1, Option.bind_some, ne_eq, Int.natCast_nonneg, Int.toNat_natCast, not_true_eq_false, not_false_eq_true, Option.map_some, Option.map_none, *, bdS1, bsG1] | (with_reducible refine sxDL_barE (by assumption) (by decide +kernel) ?_) | (with_reducible refine sxDL_bar (by decide +kernel) ?_) | (with_reducible refine sxD_bar (by decide +kernel) ?_) | (with_reducible refine sxDL_callD ?_))
        exact ⟨61 - (i + 1), by omega, i + 1, v2, rfl, by omega, hE4, rfl, rfl, rfl⟩
      · have hc0 : cb = 1 := hcT rfl
        clear hcT hcF
        subst hc0
        have htn' : tx 1 i ++ [76, 73, 78, 43, 97, 39] ++ [10] = tx 1 (i + 1) := by rw [htn, List.append_assoc]; rfl
        have ha2 : strBin .add ⟨⟨tx 1 i ++ [76, 73, 78, 43, 97, 39]⟩⟩ ⟨#[10]⟩ = some (str (tx 1 (i + 1))) := by rw [← htn']; exact add_str (by simp; omega)
        clear htn htn'
        repeat' (first | (with_reducible refine sxGuardB_tsp (fun h => ?_) (fun h => ?_)) | (with_reducible refine sxGuardB_fsp (fun h => ?_) (fun h => ?_)) | (with_reducible refine sxIfB_sp (fun h => ?_) (fun h => ?_)) | simp only [↓sxC_skip, ↓sxC_draw, ↓sxC_region, ↓sxC_seq, ↓bxC_cond, ↓bxC_loop, ↓sxC_block, ↓sxC_exit, ↓sxC_goto, ↓sxC_ret, ↓sxOps_nil, ↓sxOps_cons, ↓sxDraw_nil, ↓bxDraw_cons, ↓sxDL_move, ↓sxDL_assign, ↓sxDL_pick, ↓sxDL_alloc, ↓sxDL_box, ↓sxDL_build, ↓sxDL_buildSlice, ↓sxDL_insert, ↓sxDL_load, ↓sxDL_nilCheck, ↓sxDL_binOp, ↓sxDL_unOp, ↓sxDL_convert, ↓sxDL_makeInterface, ↓sxDL_makeFunc, ↓sxDL_makeMap, ↓sxDL_makeSlice, ↓sxDL_slice, ↓sxDL_fieldAddr, ↓sxDL_field, ↓sxDL_indexAddr, ↓sxDL_index, ↓sxDL_typeAssert, ↓sxDL_extract, ↓sxDL_lookup, ↓sxDL_mapUpdate, ↓sxDL_range, ↓sxDL_next, ↓sxDL_entry, ↓sxDL_mapEntry, ↓sxDL_entryStore, ↓sxD_same, ↓sxStep_none, ↓bxStep_some, ↓bxOp_move, ↓bxOp_assign, ↓bxOp_pick, ↓bxOp_alloc, ↓bxOp_box, ↓bxOp_build, ↓bxOp_buildSlice, ↓bxOp_load, ↓bxOp_store, ↓bxOp_nilCheck, ↓bxOp_bin, ↓bxOp_un, ↓bxOp_makeI, ↓bxOp_makeFunc, ↓bxOp_makeSlice, ↓bxOp_slice, ↓bxOp_fieldAddr, ↓bxOp_field, ↓bxOp_indexAddr, ↓bxOp_index, ↓bxOp_assert, ↓bxOp_extract, ↓bxOp_value, ↓bxOp_len, ↓bxOp_cap, ↓bxOp_append, ↓bxOp_copy, ↓bxOp_clear, ↓bxOp_max, ↓bxOp_min, ↓bxOp_convert, ↓sxPut_none, ↓bxPut, ↓seqQ_normal, ↓seqQ_exit, ↓seqQ_ret, ↓seqQ_goto, ↓blockQ_normal, ↓blockQ_ret, ↓blockQ_goto, ↓blockQ_exit, ↓loopQ_normal, ↓loopQ_exit, ↓loopQ_ret, ↓loopQ_goto, ↓resQ_normal, ↓resQ_ret, ↓sxRes_nil, ↓sxRes_tmp, ↓bxRes_cell, ↓upd_apply, ↓ev_tmp, ↓ev_const, ↓ev_global, ↓ev_func, ↓dstAt, ↓gval_some, cutQ_exit, cutQ_ret, cutQ_goto, binP_str, eql_str, neq_str, aConvH_int, aConvH_str, aConvH_some, aSliceH_slice, aSliceH_ptr, aSliceH_str, sxOptB_some, sxOptB_ite, mm_max, mm_min, binP_shl, binP_shr, binP_int, intBin, una_not_dec, una_nt, una_nf, una_neg, aPick_true, aPick_false, sxCallVB_fn, sxCallVB_yield, sxGuardB_u, sxGuardB_tt, sxGuardB_tf, sxGuardB_ft, sxGuardB_ff, sxIfB_t, sxIfB_f, packRes_one, packRes_two, List.map_cons, List.map_nil, List.nil_append, List.cons_append, List.append_nil, ↓reduceIte, Nat.reduceEqDiff, Nat.reduceLT, dec_T, dec_F, false_imp, true_and, and_true, true_implies, implies_true, false_and, and_false, true_or, or_true, false_or, or_false, and_self, or_self, read_relow, size_relow, low_relow, relow_relow, aLoad_relow, Nat.add_zero, Nat.mul_one, one1, Option.bind_some, ne_eq, Int.natCast_nonneg, Int.toNat_natCast, not_true_eq_false, not_false_eq_true, Option.map_some, Option.map_none, *, bdS1, bsG1] | (with_reducible refine sxDL_barE (by assumption) (by decide +kernel) ?_) | (with_reducible refine sxDL_bar (by decide +kernel) ?_) | (with_reducible refine sxD_bar (by decide +kernel) ?_) | (with_reducible refine sxDL_callD ?_))
        exact ⟨61 - (i + 1), by omega, i + 1, v2, rfl, by omega, hE4, rfl, rfl, rfl⟩
    rintro ρ H1 ⟨v, hG, hE, e0, e5, e6, rfl⟩
    have hg1 := hG.grp hg
    have hL1 := hG.low hL
    have hl6 := tx_len cb 61
    have hpr := parse_runs hS (tx cb 61) H1 hL1 hg1 (by omega)
    have hpt := parse_tx cb 61 [] (Nat.zero_le _)
    have hiv := hE.isv
    obtain ⟨a, hav⟩ := hiv
    have hsl := hE.sl (by rw [List.length_replicate]; decide)
    obtain ⟨r, hsl, _⟩ := hsl
    have hsl := hsl.weak
    rw [hav] at hsl hE
    rw [if_neg (show ¬ [].length + 61 ≤ 60 by decide)] at hpt
    rw [hpt] at hpr
    obtain ⟨v2, H2, hR2, hat2, hK2⟩ := hpr
    have hat2 := at_msg' hat2
    obtain ⟨a2, c2, r2, o2, rfl, hsl2'⟩ := hat2
    replace hR2 : Runs Try.prog S (.fn 7) [str (tx cb 61)] H1 (.tuple ⟨[.slice a2 0 c2, .int .i64 60, .int .i64 3]⟩) H2 := hR2
    have f2 := hR2.bx
    clear hR2
    have hK2 := hK2
    have hg2 := hK2.grp hg1
    have hL2 := hK2.low hL1
    have hsl2 := hsl.keep hK2
    have hpp := Print_runs hS (List.replicate 61 sgl) a _ r 0 H2 hg2 hsl2
    obtain ⟨H3, hK3, hR3⟩ := hpp
    rw [if_neg (fun h => absurd (ok_rep.1 h) (by decide)), if_neg (fun h => absurd (ok_rep.1 h) (by decide))] at hR3
    have f3 := hR3.bx
    have hg3 := hK3.grp hg2
    have hL3 := hK3.low hL2
    rw [List.length_replicate] at hav f3
    have fm := mkB H3
    have ho := Own.new H3 ((List.replicate 20000 (0 : Int)).map fun z => .int .u8 z) 5
    have hkn := Keep.newExact H3 ((List.replicate 20000 (0 : Int)).map fun z => .int .u8 z) 5
    have hHn : ∃ Hn, Hn = H3.newExact ((List.replicate 20000 (0 : Int)).map fun z => .int .u8 z) 5 := ⟨_, rfl⟩
    obtain ⟨Hn, hHn⟩ := hHn
    rw [← hHn] at fm ho hkn
    clear hHn hR3 hpt hl6
    repeat' (first | (with_reducible refine sxGuardB_tsp (fun h => ?_) (fun h => ?_)) | (with_reducible refine sxGuardB_fsp (fun h => ?_) (fun h => ?_)) | (with_reducible refine sxIfB_sp (fun h => ?_) (fun h => ?_)) | simp only [↓sxC_skip, ↓sxC_draw, ↓sxC_region, ↓sxC_seq, ↓bxC_cond, ↓bxC_loop, ↓sxC_block, ↓sxC_exit, ↓sxC_goto, ↓sxC_ret, ↓sxOps_nil, ↓sxOps_cons, ↓sxDraw_nil, ↓bxDraw_cons, ↓sxDL_move, ↓sxDL_assign, ↓sxDL_pick, ↓sxDL_alloc, ↓sxDL_box, ↓sxDL_build, ↓sxDL_buildSlice, ↓sxDL_insert, ↓sxDL_load, ↓sxDL_nilCheck, ↓sxDL_binOp, ↓sxDL_unOp, ↓sxDL_convert, ↓sxDL_makeInterface, ↓sxDL_makeFunc, ↓sxDL_makeMap, ↓sxDL_makeSlice, ↓sxDL_slice, ↓sxDL_fieldAddr, ↓sxDL_field, ↓sxDL_indexAddr, ↓sxDL_index, ↓sxDL_typeAssert, ↓sxDL_extract, ↓sxDL_lookup, ↓sxDL_mapUpdate, ↓sxDL_range, ↓sxDL_next, ↓sxDL_entry, ↓sxDL_mapEntry, ↓sxDL_entryStore, ↓sxD_same, ↓sxStep_none, ↓bxStep_some, ↓bxOp_move, ↓bxOp_assign, ↓bxOp_pick, ↓bxOp_alloc, ↓bxOp_box, ↓bxOp_build, ↓bxOp_buildSlice, ↓bxOp_load, ↓bxOp_store, ↓bxOp_nilCheck, ↓bxOp_bin, ↓bxOp_un, ↓bxOp_makeI, ↓bxOp_makeFunc, ↓bxOp_makeSlice, ↓bxOp_slice, ↓bxOp_fieldAddr, ↓bxOp_field, ↓bxOp_indexAddr, ↓bxOp_index, ↓bxOp_assert, ↓bxOp_extract, ↓bxOp_value, ↓bxOp_len, ↓bxOp_cap, ↓bxOp_append, ↓bxOp_copy, ↓bxOp_clear, ↓bxOp_max, ↓bxOp_min, ↓bxOp_convert, ↓sxPut_none, ↓bxPut, ↓seqQ_normal, ↓seqQ_exit, ↓seqQ_ret, ↓seqQ_goto, ↓blockQ_normal, ↓blockQ_ret, ↓blockQ_goto, ↓blockQ_exit, ↓loopQ_normal, ↓loopQ_exit, ↓loopQ_ret, ↓loopQ_goto, ↓resQ_normal, ↓resQ_ret, ↓sxRes_nil, ↓sxRes_tmp, ↓bxRes_cell, ↓upd_apply, ↓ev_tmp, ↓ev_const, ↓ev_global, ↓ev_func, ↓dstAt, ↓gval_some, cutQ_exit, cutQ_ret, cutQ_goto, binP_str, eql_str, neq_str, aConvH_int, aConvH_str, aConvH_some, aSliceH_slice, aSliceH_ptr, aSliceH_str, sxOptB_some, sxOptB_ite, mm_max, mm_min, binP_shl, binP_shr, binP_int, intBin, una_not_dec, una_nt, una_nf, una_neg, aPick_true, aPick_false, sxCallVB_fn, sxCallVB_yield, sxGuardB_u, sxGuardB_tt, sxGuardB_tf, sxGuardB_ft, sxGuardB_ff, sxIfB_t, sxIfB_f, packRes_one, packRes_two, List.map_cons, List.map_nil, List.nil_append, List.cons_append, List.append_nil, ↓reduceIte, Nat.reduceEqDiff, Nat.reduceLT, dec_T, dec_F, false_imp, true_and, and_true, true_implies, implies_true, false_and, and_false, true_or, or_true, false_or, or_false, and_self, or_self, read_relow, size_relow, low_relow, relow_relow, aLoad_relow, Nat.add_zero, Nat.mul_one, one1, Option.bind_some, ne_eq, Int.natCast_nonneg, Int.toNat_natCast, not_true_eq_false, not_false_eq_true, Option.map_some, Option.map_none, *, ex0, ex1, fx30, fx31, fx32] | (with_reducible refine sxDL_barE (by assumption) (by decide +kernel) ?_) | (with_reducible refine sxDL_bar (by decide +kernel) ?_) | (with_reducible refine sxD_bar (by decide +kernel) ?_) | (with_reducible refine sxDL_callD ?_))
    refine sxL_of (fun m ρ H4 => ∃ (i : Nat), m = 20000 - i ∧ i ≤ 20000 ∧ Keep H3 H4 ∧ Own H4 H3.size 5 ((fill i 20000).map fun z => .int .u8 z) ∧ ρ 0 = .bool true ∧ ρ 9 = .slice a2 0 c2 ∧ ρ 10 = .int .i64 60 ∧ ρ 11 = .int .i64 3 ∧ ρ 12 = str [] ∧ ρ 13 = .int .i64 2 ∧ ρ 14 = .slice (some ⟨H3.size, 0, none⟩) 20000 20000 ∧ ρ 15 = .int .i64 (i : Int))
      ⟨0, rfl, Nat.zero_le _, hkn, ho, e0, rfl, rfl, rfl, rfl, rfl, rfl, rfl⟩ ?_
    clear ho hkn fm f2 f3 e0 e5 e6 hav
    rintro m ρ H4 ⟨i, rfl, hi, hK4, hO4, e0, e9, e10, e11, e12, e13, e14, e15⟩
    by_cases hlt : i < 20000
    · have hlt' : (i : Int) < 20000 := by omega
      have hlt2 : (i : Int) < ((20000 : Nat) : Int) := by omega
      have hw := wrap_succ hlt (by omega : 20000 ≤ Go.maxLen)
      have hix : aIndexAt Try.prog 35 (.slice (some ⟨H3.size, 0, none⟩) 20000 20000) (.int .i64 (i : Int)) = some (.pointer (some ⟨H3.size, i, none⟩)) := by rw [ixU, if_pos ⟨by omega, hlt'⟩, Int.toNat_natCast, Nat.mul_one, Nat.zero_add]
      have hst := stU hO4 (o := i) (by rw [fill_len (by omega)]; exact hlt)
      obtain ⟨H5, fs, hO5, hK5, _⟩ := hst
      rw [fill_set hlt] at hO5
      have hK5 := hK5 H3 hK4 (Nat.le_refl _)
      clear hO4 hK4
      repeat' (first | (with_reducible refine sxGuardB_tsp (fun h => ?_) (fun h => ?_)) | (with_reducible refine sxGuardB_fsp (fun h => ?_) (fun h => ?_)) | (with_reducible refine sxIfB_sp (fun h => ?_) (fun h => ?_)) | simp only [↓sxC_skip, ↓sxC_draw, ↓sxC_region, ↓sxC_seq, ↓bxC_cond, ↓bxC_loop, ↓sxC_block, ↓sxC_exit, ↓sxC_goto, ↓sxC_ret, ↓sxOps_nil, ↓sxOps_cons, ↓sxDraw_nil, ↓bxDraw_cons, ↓sxDL_move, ↓sxDL_assign, ↓sxDL_pick, ↓sxDL_alloc, ↓sxDL_box, ↓sxDL_build, ↓sxDL_buildSlice, ↓sxDL_insert, ↓sxDL_load, ↓sxDL_nilCheck, ↓sxDL_binOp, ↓sxDL_unOp, ↓sxDL_convert, ↓sxDL_makeInterface, ↓sxDL_makeFunc, ↓sxDL_makeMap, ↓sxDL_makeSlice, ↓sxDL_slice, ↓sxDL_fieldAddr, ↓sxDL_field, ↓sxDL_indexAddr, ↓sxDL_index, ↓sxDL_typeAssert, ↓sxDL_extract, ↓sxDL_lookup, ↓sxDL_mapUpdate, ↓sxDL_range, ↓sxDL_next, ↓sxDL_entry, ↓sxDL_mapEntry, ↓sxDL_entryStore, ↓sxD_same, ↓sxStep_none, ↓bxStep_some, ↓bxOp_move, ↓bxOp_assign, ↓bxOp_pick, ↓bxOp_alloc, ↓bxOp_box, ↓bxOp_build, ↓bxOp_buildSlice, ↓bxOp_load, ↓bxOp_store, ↓bxOp_nilCheck, ↓bxOp_bin, ↓bxOp_un, ↓bxOp_makeI, ↓bxOp_makeFunc, ↓bxOp_makeSlice, ↓bxOp_slice, ↓bxOp_fieldAddr, ↓bxOp_field, ↓bxOp_indexAddr, ↓bxOp_index, ↓bxOp_assert, ↓bxOp_extract, ↓bxOp_value, ↓bxOp_len, ↓bxOp_cap, ↓bxOp_append, ↓bxOp_copy, ↓bxOp_clear, ↓bxOp_max, ↓bxOp_min, ↓bxOp_convert, ↓sxPut_none, ↓bxPut, ↓seqQ_normal, ↓seqQ_exit, ↓seqQ_ret, ↓seqQ_goto, ↓blockQ_normal, ↓blockQ_ret, ↓blockQ_goto, ↓blockQ_exit, ↓loopQ_normal, ↓loopQ_exit, ↓loopQ_ret, ↓loopQ_goto, ↓resQ_normal, ↓resQ_ret, ↓sxRes_nil, ↓sxRes_tmp, ↓bxRes_cell, ↓upd_apply, ↓ev_tmp, ↓ev_const, ↓ev_global, ↓ev_func, ↓dstAt, ↓gval_some, cutQ_exit, cutQ_ret, cutQ_goto, binP_str, eql_str, neq_str, aConvH_int, aConvH_str, aConvH_some, aSliceH_slice, aSliceH_ptr, aSliceH_str, sxOptB_some, sxOptB_ite, mm_max, mm_min, binP_shl, binP_shr, binP_int, intBin, una_not_dec, una_nt, una_nf, una_neg, aPick_true, aPick_false, sxCallVB_fn, sxCallVB_yield, sxGuardB_u, sxGuardB_tt, sxGuardB_tf, sxGuardB_ft, sxGuardB_ff, sxIfB_t, sxIfB_f, packRes_one, packRes_two, List.map_cons, List.map_nil, List.nil_append, List.cons_append, List.append_nil, ↓reduceIte, Nat.reduceEqDiff, Nat.reduceLT, dec_T, dec_F, false_imp, true_and, and_true, true_implies, implies_true, false_and, and_false, true_or, or_true, false_or, or_false, and_self, or_self, read_relow, size_relow, low_relow, relow_relow, aLoad_relow, Nat.add_zero, Nat.mul_one, one1, Option.bind_some, ne_eq, Int.natCast_nonneg, Int.toNat_natCast, not_true_eq_false, not_false_eq_true, Option.map_some, Option.map_none, *, lenU] | (with_reducible refine sxDL_barE (by assumption) (by decide +kernel) ?_) | (with_reducible refine sxDL_bar (by decide +kernel) ?_) | (with_reducible refine sxD_bar (by decide +kernel) ?_) | (with_reducible refine sxDL_callD ?_))
      exact ⟨_, by omega, i + 1, rfl, by omega, hO5, rfl⟩
    have hi' : i = 20000 := by omega
    subst hi'
    have hn : ¬ (((20000 : Nat) : Int) < 20000) := by omega
    have hn2 : ¬ (((20000 : Nat) : Int) < ((20000 : Nat) : Int)) := by omega
    have z0 : ((0 : Nat) : Int) = 0 := rfl
    have hsu := strU hO4
    have hg4 := hK4.grp hg3
    have hL4 := hK4.low hL3
    have hpn := parse_runs hS (nls 20000) H4 hL4 hg4 (by rw [nls_len]; exact Nat.le_refl _)
    rw [parse_only] at hpn
    obtain ⟨v5, H5, hR5, hat5, hK5⟩ := hpn
    have hat5 := at_msg' hat5
    obtain ⟨a5, c5, r5, o5, rfl, hsl5⟩ := hat5
    replace hR5 : Runs Try.prog S (.fn 7) [str (nls 20000)] H4 (.tuple ⟨[.slice a5 0 c5, .int .i64 0, .int .i64 0]⟩) H5 := hR5
    have f5 := hR5.bx
    have hO5 := hO4.keep hK5
    have hsu5 := strU hO5
    have ha5 : strBin .add ⟨⟨nls 20000⟩⟩ ⟨#[10]⟩ = some (str (nls 20001)) := by
      rw [show nls 20001 = nls 20000 ++ [10] from nls_succ 20000]
      exact add_str (by rw [nls_len]; decide)
    have f6 := (parse_long hS (nls 20001) H5 (by rw [nls_len]; decide)).bx
    clear hsl hsl2 hsl2'
    clear hR5 hsl5 hO4 hO5
    repeat' (first | (with_reducible refine sxGuardB_tsp (fun h => ?_) (fun h => ?_)) | (with_reducible refine sxGuardB_fsp (fun h => ?_) (fun h => ?_)) | (with_reducible refine sxIfB_sp (fun h => ?_) (fun h => ?_)) | simp only [↓sxC_skip, ↓sxC_draw, ↓sxC_region, ↓sxC_seq, ↓bxC_cond, ↓bxC_loop, ↓sxC_block, ↓sxC_exit, ↓sxC_goto, ↓sxC_ret, ↓sxOps_nil, ↓sxOps_cons, ↓sxDraw_nil, ↓bxDraw_cons, ↓sxDL_move, ↓sxDL_assign, ↓sxDL_pick, ↓sxDL_alloc, ↓sxDL_box, ↓sxDL_build, ↓sxDL_buildSlice, ↓sxDL_insert, ↓sxDL_load, ↓sxDL_nilCheck, ↓sxDL_binOp, ↓sxDL_unOp, ↓sxDL_convert, ↓sxDL_makeInterface, ↓sxDL_makeFunc, ↓sxDL_makeMap, ↓sxDL_makeSlice, ↓sxDL_slice, ↓sxDL_fieldAddr, ↓sxDL_field, ↓sxDL_indexAddr, ↓sxDL_index, ↓sxDL_typeAssert, ↓sxDL_extract, ↓sxDL_lookup, ↓sxDL_mapUpdate, ↓sxDL_range, ↓sxDL_next, ↓sxDL_entry, ↓sxDL_mapEntry, ↓sxDL_entryStore, ↓sxD_same, ↓sxStep_none, ↓bxStep_some, ↓bxOp_move, ↓bxOp_assign, ↓bxOp_pick, ↓bxOp_alloc, ↓bxOp_box, ↓bxOp_build, ↓bxOp_buildSlice, ↓bxOp_load, ↓bxOp_store, ↓bxOp_nilCheck, ↓bxOp_bin, ↓bxOp_un, ↓bxOp_makeI, ↓bxOp_makeFunc, ↓bxOp_makeSlice, ↓bxOp_slice, ↓bxOp_fieldAddr, ↓bxOp_field, ↓bxOp_indexAddr, ↓bxOp_index, ↓bxOp_assert, ↓bxOp_extract, ↓bxOp_value, ↓bxOp_len, ↓bxOp_cap, ↓bxOp_append, ↓bxOp_copy, ↓bxOp_clear, ↓bxOp_max, ↓bxOp_min, ↓bxOp_convert, ↓sxPut_none, ↓bxPut, ↓seqQ_normal, ↓seqQ_exit, ↓seqQ_ret, ↓seqQ_goto, ↓blockQ_normal, ↓blockQ_ret, ↓blockQ_goto, ↓blockQ_exit, ↓loopQ_normal, ↓loopQ_exit, ↓loopQ_ret, ↓loopQ_goto, ↓resQ_normal, ↓resQ_ret, ↓sxRes_nil, ↓sxRes_tmp, ↓bxRes_cell, ↓upd_apply, ↓ev_tmp, ↓ev_const, ↓ev_global, ↓ev_func, ↓dstAt, ↓gval_some, cutQ_exit, cutQ_ret, cutQ_goto, binP_str, eql_str, neq_str, aConvH_int, aConvH_str, aConvH_some, aSliceH_slice, aSliceH_ptr, aSliceH_str, sxOptB_some, sxOptB_ite, mm_max, mm_min, binP_shl, binP_shr, binP_int, intBin, una_not_dec, una_nt, una_nf, una_neg, aPick_true, aPick_false, sxCallVB_fn, sxCallVB_yield, sxGuardB_u, sxGuardB_tt, sxGuardB_tf, sxGuardB_ft, sxGuardB_ff, sxIfB_t, sxIfB_f, packRes_one, packRes_two, List.map_cons, List.map_nil, List.nil_append, List.cons_append, List.append_nil, ↓reduceIte, Nat.reduceEqDiff, Nat.reduceLT, dec_T, dec_F, false_imp, true_and, and_true, true_implies, implies_true, false_and, and_false, true_or, or_true, false_or, or_false, and_self, or_self, read_relow, size_relow, low_relow, relow_relow, aLoad_relow, Nat.add_zero, Nat.mul_one, one1, Option.bind_some, ne_eq, Int.natCast_nonneg, Int.toNat_natCast, not_true_eq_false, not_false_eq_true, Option.map_some, Option.map_none, *, lenU, lenG, lenS, ex0, ex1, fx30, fx31, fx32] | (with_reducible refine sxDL_barE (by assumption) (by decide +kernel) ?_) | (with_reducible refine sxDL_bar (by decide +kernel) ?_) | (with_reducible refine sxD_bar (by decide +kernel) ?_) | (with_reducible refine sxDL_callD ?_))

end Go.Proofs.Ytifnmlocblanbaa
