/- The law QuotaTalmud on the canonical machine. -/
import Derived.Test.YtpeoleimmabceaaEN
set_option linter.unusedVariables false
set_option linter.unusedSimpArgs false
set_option linter.unusedSectionVars false

namespace Go.Proofs.Ytpeoleimmabceaa
open Go Go.AM
set_option maxRecDepth 10000

theorem boxShareT {H H1 : Heap} {rule e : Int} {c : List Int} {u : Value} (h : PostSh RunR H rule e c u H1) :
    ∃ a n cp z f H2 H3, u = .tuple ⟨[.agg ⟨[.slice a n cp, .int .i64 z]⟩, .int .i64 f]⟩ ∧ aAlloc Try.prog H1 26 = some (.pointer (some ⟨H1.size, 0, none⟩), H2) ∧ aStore Try.prog H2 26 (.pointer (some ⟨H1.size, 0, none⟩)) (.agg ⟨[.slice a n cp, .int .i64 z]⟩) = some H3 ∧
      Keep H H3 ∧ H1.size < H3.size ∧ Own H3 H1.size 26 [.slice a n cp, .int .i64 z] ∧ (¬ (Q.Prob e c ∧ isRule rule) → f = 2 ∧ n = 0 ∧ z = 0) ∧
      (Q.Prob e c ∧ isRule rule → f = 0 ∧ ∃ w r', n = w.length ∧ w.length = c.length ∧ Q.Shr e c w z ∧ Awd RunR rule e c w z ∧ SlI .i64 H3 (.slice a n cp) w r' 0) := by
  obtain ⟨a, n, cp, z, f, rfl, k1, hbad, hgood⟩ := h
  obtain ⟨H2, e2, k2, s2, -, -⟩ := box1 H1 [.slice none 0 0, .int .i64 0] 26
  have ow2 : Own H2 H1.size 26 [.slice none 0 0, .int .i64 0] := e2 ▸ Own.new H1 _ _
  have al2 : aAlloc Try.prog H1 26 = some (.pointer (some ⟨H1.size, 0, none⟩), H2) := by rw [alP, e2]
  obtain ⟨H3, st3, o3, z3, x3, k13⟩ := stPX ow2 rfl a n cp z k2 (Nat.le_refl _)
  refine ⟨a, n, cp, z, f, H2, H3, rfl, al2, st3, k1.trans k13, by omega, o3, hbad, fun hp => ?_⟩
  obtain ⟨rfl, w, rfl, hsh, haw, v', r', hv', sv, hr'⟩ := hgood hp
  cases hv'
  exact ⟨rfl, w, r', rfl, hsh.1, hsh, haw, sv.keep k13⟩
theorem neB (a b : Bool) : binP Try.prog .neq 4 (.bool a) (.bool b) = some (.bool (!(a == b))) := binP_neq Try.underlying4 a b
theorem res_nil {c w : List Int} {d : Int} {u : List Int} (h : Res c w d u) : (u.length = 0 ↔ ∀ i j, i < j → j < c.length → ¬ Unf c w d i j) := by
  rcases h with ⟨i, j, h1, h2, rfl, h3, _⟩ | ⟨rfl, h⟩
  · exact ⟨fun h => by simp at h, fun h => absurd h3 (h i j h1 h2)⟩
  · exact ⟨fun _ => h, fun _ => rfl⟩

theorem talmud_tail {S : AM.Sys} (hS : Only S 11) {e z : Int} {c w : List Int} {va a : Option Addr} {vc cp r o r' : Nat} (h2 : c.length = 2) (hp : Q.Prob e c) (hsh : Q.Shr e c w z) (hfair : ∀ i j, i < j → j < c.length → ¬ Unf c w z i j)
    (H : Heap) (hg : Grp H) (hL : H.low ≤ H.size) (hl : SlI .i64 H (.slice va c.length vc) c r o) (sv : SlI .i64 H (.slice a w.length cp) w r' 0) :
    ∃ p0 p1 b n bq zc H1 H2 H3 H4 H5 H6 H7, aIndexAt Try.prog 22 (.slice va c.length vc) (.int .i64 0) = some (.pointer (some ⟨r, o, none⟩)) ∧ aIndexAt Try.prog 22 (.slice va c.length vc) (.int .i64 1) = some (.pointer (some ⟨r, o + 1, none⟩)) ∧
      H.read r o 1 = some [.int .i64 p0] ∧ H.read r (o + 1) 1 = some [.int .i64 p1] ∧
      (∀ (K : Value → Heap → Prop) (bl : Blk K), sxCallB Try.prog S (.fn 21) [.int .i64 e, .int .i64 p0, .int .i64 p1] (H.relow H.size) K bl = K (.tuple ⟨[.agg ⟨[.slice b n bq, .int .i64 zc]⟩, .int .i64 0]⟩) H1) ∧
      (∀ (all : List Oper) (n : Nat) (k : Heap → Prop), sxD all n H H1 k = k H2) ∧
      aAlloc Try.prog (H2.relow H2.size) 26 = some (.pointer (some ⟨H2.size, 0, none⟩), H3) ∧ (∀ (all : List Oper) (n : Nat) (k : Heap → Prop), sxD all n H2 H3 k = k H4) ∧
      aStore Try.prog (H4.relow H4.size) 26 (.pointer (some ⟨H2.size, 0, none⟩)) (.agg ⟨[.slice b n bq, .int .i64 zc]⟩) = some H5 ∧ H5.relow (Nat.min H4.low H5.low) = H6 ∧
      Keep H H6 ∧ H2.low ≤ H2.size ∧ H4.low ≤ H4.size ∧ H6.low ≤ H6.size ∧ H6.read H2.size 0 2 = some [.slice b n bq, .int .i64 zc] ∧
      (∀ (K : Value → Heap → Prop) (bl : Blk K), sxCallB Try.prog S (.fn 20) [.agg ⟨[.slice b n bq, .int .i64 zc]⟩, .agg ⟨[.slice a w.length cp, .int .i64 z]⟩] H6 K bl = K (.bool true) H7) := by
  obtain ⟨c0, c1, rfl⟩ : ∃ c0 c1, c = [c0, c1] := by
    match c, h2 with
    | [c0, c1], _ => exact ⟨c0, c1, rfl⟩
  obtain ⟨H1, v, r2, o2, k1, g1, s1, -, R1⟩ := Contest_good hS e c0 c1 (H.relow H.size) hg (Nat.le_refl _) hp
  obtain ⟨hcs, hcf⟩ := contest_shr hp
  obtain ⟨b, bq, rfl⟩ := s1.v0
  have k2 := Keep.draw k1
  have l2 := k2.low hL
  obtain ⟨H3, H4, e3, d3, k4, l4, o4, z4⟩ := allocD [.slice none 0 0, .int .i64 0] 26 l2
  have al3 : aAlloc Try.prog ((H1.relow (Nat.min H.low H1.low)).relow (H1.relow (Nat.min H.low H1.low)).size) 26 = some (.pointer (some ⟨(H1.relow (Nat.min H.low H1.low)).size, 0, none⟩), H3) := by rw [alP, e3]; rfl
  obtain ⟨H5, H6, st5, rl5, k6, z6, l6, o6, _⟩ := stPD k4 (Nat.le_refl _) l4 o4 rfl b (halfN (twice e c0 c1) (2 * e - twice e c0 c1)).length bq (halfD (twice e c0 c1))
  have s6 := (s1.ge (H' := H1.relow (Nat.min H.low H1.low)) (stable_int _ 0) (fun _ => Nat.zero_le _) ⟨Nat.le_refl _, fun _ _ _ _ h => ⟨h, rfl⟩⟩).keep k6
  have k26 := k2.trans k6
  obtain ⟨H7, k7, R7⟩ := cpartsG_runs hS _ _ _ w _ z r2 o2 r' 0 H6 l6 s6 (sv.keep k26)
  have hone := fair_one hcs hsh hcf hfair
  rw [decide_eq_true hone] at R7
  have i0 := SlI_ix hl (k := 0) (by show 0 < 2; omega)
  have i1 := SlI_ix hl (k := 1) (by show 1 < 2; omega)
  have q0 := (hl.rdI (i := 0) (by show 0 < 2; omega)).1
  have q1 := (hl.rdI (i := 1) (by show 1 < 2; omega)).1
  obtain ⟨y0, _, _⟩ := ownP o6
  exact ⟨c0, c1, b, _, bq, _, H1, _, H3, H4, H5, H6, H7, i0, i1, q0, q1, R1.bx, fun all n k => sxD_keep k1 k, al3, d3, st5, rl5, k26, l2, l4, l6, y0, R7.bx⟩

variable {S : AM.Sys} (hS : Only S 11)
include hS

set_option maxHeartbeats 16000000 in
theorem lawTalmud_runs (e : Int) (v xv : Value) (c xw : List Int) (xd : Int) (r o r2 o2 : Nat) (H : Heap) (hg : Grp H) (hL : H.low ≤ H.size) (hl : SlI .i64 H v c r o) (hxl : SlI .i64 H xv xw r2 o2)
    (hO : ∀ H', S.O 11 [] H') : ∃ H', Runs Try.prog S (.fn 7) [.int .i64 e, v, .agg ⟨[xv, .int .i64 xd]⟩] H (.bool true) H' := by
  suffices h : WCall Try.prog S (.fn 7) [.int .i64 e, v, .agg ⟨[xv, .int .i64 xd]⟩] H (fun v H' => v = .bool true) by
    obtain ⟨_, H', hr, rfl⟩ := h; exact ⟨H', hr⟩
  have hk1 : ∀ (H' : Heap) (K : Value → Heap → Prop) (b : Blk K), sxCallB Try.prog S (.fn 11) [] H' K b = K (.bool true) H' := fun H' K b => known_bx (hO H')
  clear hO
  have hml := hl.ml
  have hlv := hl.v0
  obtain ⟨va, vc, rfl⟩ := hlv
  have hlv := hxl.v0
  obtain ⟨xa, xc, rfl⟩ := hlv
  have hob := Q.boxP H (.slice xa xw.length xc) (.int .i64 xd)
  obtain ⟨H1, e1, k1, s1, rd2, rd0, rd1⟩ := hob
  have f0 := (few_runs hS va c.length vc H1).bx
  have f00 := (few_runs hS xa xw.length xc H1).bx
  by_cases h40 : (c.length : Int) ≤ 40
  case neg =>
    rw [decide_eq_false h40] at f0
    clear hl hxl h40
    refine call_of Try.func7 rfl (Nat.le_of_ble_eq_true rfl) (hS.no rfl _ _) ?_
    rw [Try.ntmps7, Try.results7]
    repeat' (first | simp only [↓Zabg, ↓sxC_draw, ↓Zabd, ↓Zabf, ↓Zaad, ↓Zabe, ↓Zabr, ↓Zabq, ↓Zabn, ↓Zaae, ↓Zabm, ↓sxDL_assign, ↓sxDL_alloc, ↓sxDL_load, ↓Zabl, ↓sxDL_extract, ↓Zabw, ↓Zaao, ↓Zaal, ↓Zaaf, ↓bxOp_pick, ↓bxOp_alloc, ↓bxOp_box, ↓Zaak, ↓Zaam, ↓Zaag, ↓bxOp_un, ↓Zaah, ↓Zaai, ↓bxOp_extract, ↓Zaan, ↓Zaaj, ↓Zabt, ↓bxPut, ↓Zaaz, ↓Zaba, ↓Zaax, ↓Zabu, ↓Zabv, ↓Zabx, ↓Zaar, ↓Zaaq, ↓ev_func, ↓dstAt, ↓gval_some, Zabs, una_nf, aPick_true, Zabh, sxGuardB_ft, sxIfB_t, Zaav, List.map_cons, List.map_nil, List.nil_append, List.append_nil, ↓reduceIte, Nat.reduceEqDiff, Nat.reduceLT, *, argF, List.getD_cons_zero, List.getD_cons_succ, Q.cells_agg] | (with_reducible first | refine Zabj (by assumption) (by decide +kernel) ?_ | refine Zabi (by decide +kernel) ?_ | refine sxD_bar (by decide +kernel) ?_ | refine Zabk ?_))
  rw [decide_eq_true h40] at f0
  by_cases h41 : (xw.length : Int) ≤ 40
  case neg =>
    rw [decide_eq_false h41] at f00
    clear hl hxl h40 h41
    refine call_of Try.func7 rfl (Nat.le_of_ble_eq_true rfl) (hS.no rfl _ _) ?_
    rw [Try.ntmps7, Try.results7]
    repeat' (first | simp only [↓Zabg, ↓sxC_draw, ↓Zabd, ↓Zabf, ↓Zaad, ↓Zabe, ↓Zabr, ↓Zabq, ↓Zabn, ↓Zaae, ↓Zabm, ↓sxDL_assign, ↓sxDL_alloc, ↓sxDL_load, ↓Zabl, ↓sxDL_extract, ↓Zabw, ↓Zaao, ↓Zaal, ↓Zaaf, ↓bxOp_pick, ↓bxOp_alloc, ↓bxOp_box, ↓Zaak, ↓Zaam, ↓Zaag, ↓bxOp_un, ↓Zaah, ↓Zaai, ↓bxOp_extract, ↓Zaan, ↓Zaaj, ↓Zabt, ↓bxPut, ↓Zaaz, ↓Zaba, ↓Zaax, ↓Zabu, ↓Zabv, ↓Zabx, ↓Zaar, ↓Zaaq, ↓ev_func, ↓dstAt, ↓gval_some, Zabs, una_nt, una_nf, aPick_false, Zabh, sxGuardB_ff, sxIfB_t, Zaav, List.map_cons, List.map_nil, List.nil_append, List.append_nil, ↓reduceIte, Nat.reduceEqDiff, Nat.reduceLT, Nat.add_zero, one1, Option.bind_some, *, argF, List.getD_cons_zero, List.getD_cons_succ, Q.cells_agg, paG0, ldIs, one1] | (with_reducible first | refine Zabj (by assumption) (by decide +kernel) ?_ | refine Zabi (by decide +kernel) ?_ | refine sxD_bar (by decide +kernel) ?_ | refine Zabk ?_))
  rw [decide_eq_true h41] at f00
  have ex0 : ∀ x y : Value, aExtract (.tuple ⟨[x, y]⟩) 0 = some x := fun x y => by kernel_rfl
  have ex1 : ∀ x y : Value, aExtract (.tuple ⟨[x, y]⟩) 1 = some y := fun x y => by kernel_rfl
  have L1 := k1.low hL
  have g1 := k1.grp hg
  have hob := ShareR_runs hS 3 e _ c r o H1 g1 L1 (hl.keep k1)
  obtain ⟨u1, H2, hR1, hps1⟩ := hob
  have hob := boxShareT hps1
  obtain ⟨a, n, cp, z, f, H3, H4, rfl, al2, st3, K14, s3, o3, hbad, hgood⟩ := hob
  have f1 := hR1.bx
  have hob := ownP o3
  obtain ⟨y0, y1, y2⟩ := hob
  have z0 : decide ((0 : Int) = 0) = true := rfl
  have z1 : decide (¬ (0 : Int) = 0) = false := rfl
  have z2 : decide ((2 : Int) = 2) = true := rfl
  have z3 : decide (¬ (2 : Int) = 0) = true := rfl
  have z4 : decide ((2 : Int) = 0) = false := rfl
  by_cases hp : Q.Prob e c
  case neg =>
    have hb := hbad (fun h => hp h.1)
    obtain ⟨rfl, rfl, rfl⟩ := hb
    clear hl hxl h40 h41 hbad hgood hR1 hps1 K14 hp o3 hg s3 g1 k1
    refine call_of Try.func7 rfl (Nat.le_of_ble_eq_true rfl) (hS.no rfl _ _) ?_
    rw [Try.ntmps7, Try.results7]
    repeat' (first | simp only [↓Zabg, ↓sxC_draw, ↓Zabd, ↓Zabf, ↓Zaad, ↓Zabe, ↓Zabr, ↓Zabq, ↓Zabn, ↓Zaae, ↓Zabm, ↓sxDL_assign, ↓sxDL_alloc, ↓sxDL_load, ↓Zabl, ↓sxDL_extract, ↓Zabw, ↓Zaao, ↓Zaal, ↓Zaaf, ↓bxOp_pick, ↓bxOp_alloc, ↓bxOp_box, ↓Zaak, ↓Zaam, ↓Zaag, ↓bxOp_un, ↓Zaah, ↓Zaai, ↓bxOp_extract, ↓Zaan, ↓Zaaj, ↓Zabt, ↓bxPut, ↓Zaaz, ↓Zaba, ↓Zaax, ↓Zabu, ↓Zabv, ↓Zabx, ↓Zaar, ↓Zaaq, ↓ev_func, ↓dstAt, ↓gval_some, Zabs, Zaaa, Zaas, una_nt, aPick_true, aPick_false, Zabh, sxGuardB_tt, sxGuardB_ff, sxIfB_t, sxIfB_f, Zaav, List.map_cons, List.map_nil, List.nil_append, List.append_nil, ↓reduceIte, Nat.reduceEqDiff, Nat.reduceLT, dec_T, Nat.add_zero, one1, Option.bind_some, *, argF, List.getD_cons_zero, List.getD_cons_succ, Q.cells_agg, paG0, ldIs, one1] | (with_reducible first | refine Zabj (by assumption) (by decide +kernel) ?_ | refine Zabi (by decide +kernel) ?_ | refine sxD_bar (by decide +kernel) ?_ | refine Zabk ?_))
  have hgd := hgood ⟨hp, by unfold isRule; omega⟩
  obtain ⟨rfl, w, r', rfl, hwl, hsh, haw, sv⟩ := hgd
  have K4 := k1.trans K14
  have L4 := K4.low hL
  have g4 := K4.grp hg
  have hfair : ∀ i j, i < j → j < c.length → ¬ Unf c w z i j := fun i j h1 h2 => talmud_fair hp hsh haw (by omega) h2
  have hob := Fair_runs hS e _ _ c w z r o r' 0 H4 g4 L4 (hl.keep K4) sv hp hsh
  obtain ⟨H5, v5, u5, r5, o5, hres5, k5, g5, s5, hR5⟩ := hob
  have hu5 := (res_nil hres5).2 hfair
  have hv5 := s5.v0
  obtain ⟨a5, c5, rfl⟩ := hv5
  rw [hu5] at hR5
  have f5 : ∀ (K : Value → Heap → Prop) (bl : Blk K), sxCallB Try.prog S (.fn 19) [.int .i64 e, .slice va c.length vc, .agg ⟨[.slice a w.length cp, .int .i64 z]⟩] H4 K bl = K (.tuple ⟨[.slice a5 0 c5, .int .i64 0]⟩) H5 := hR5.bx
  have K5 := K4.trans k5
  have L5 := K5.low hL
  have rd2' := (K14.trans k5).read s1 rd2
  have c00 : ((0 : Nat) : Int) = 0 := rfl
  have hob := cpartsG_runs hS (.slice xa xw.length xc) (.slice a w.length cp) xw w xd z r2 o2 r' 0
  have hq : ∃ H6 q fq, (∀ (K : Value → Heap → Prop) (bl : Blk K), sxCallB Try.prog S (.fn 19) [.int .i64 e, .slice va c.length vc, .agg ⟨[.slice xa xw.length xc, .int .i64 xd]⟩] H5 K bl = K (.tuple ⟨[q, .int .i64 fq]⟩) H6) ∧ Keep H5 H6 ∧
      (fq = 2 ∨ (fq = 0 ∧ ∃ qa qn qc, q = .slice qa qn qc ∧ decide ((qn : Int) = 0) = decide (xd = z ∧ xw = w))) := by
    by_cases hxs : Q.Shr e c xw xd
    · obtain ⟨H6, v6, u6, r6, o6, hres6, k6, g6, s6, hR6⟩ := Fair_runs hS e _ _ c xw xd r o r2 o2 H5 g5 L5 (hl.keep K5) (hxl.keep K5) hp hxs
      obtain ⟨a6, c6, rfl⟩ := s6.v0
      refine ⟨H6, _, 0, hR6.bx, k6, .inr ⟨rfl, _, _, _, rfl, decide_eq_decide.2 ⟨fun h => ?_, fun h => ?_⟩⟩⟩
      · have h1 := (res_nil hres6).1 (by omega)
        have h2 := fair_one hxs hsh h1 hfair
        exact h2
      · have h1 : ∀ i j, i < j → j < c.length → ¬ Unf c xw xd i j := by rw [h.1, h.2]; exact hfair
        have h2 := (res_nil hres6).2 h1
        omega
    · obtain ⟨H6, k6, hR6⟩ := Fair_bad hS e _ _ c xw xd r o r2 o2 H5 g5 L5 (hl.keep K5) (hxl.keep K5) (fun h => hxs h.2)
      exact ⟨H6, _, 2, hR6.bx, k6, .inl rfl⟩
  obtain ⟨H6, q, fq, f6, k6, hqc⟩ := hq
  have K6 := K5.trans k6
  have L6 := K6.low hL
  have hob := hob H6 L6 (hxl.keep K6) (sv.keep (k5.trans k6))
  obtain ⟨H7, k7, hR7⟩ := hob
  have f7 := hR7.bx
  have rd26 := k6.read (by have := (K14.trans k5).size; omega) rd2'
  have y06 := (k5.trans k6).read s3 y0
  have L7 := k7.low L6
  have g5' : Grp H6 := (k5.trans k6).grp g4
  have g7 := k7.grp g5'
  have rd27 := k7.read (by have := ((K14.trans k5).trans k6).size; omega) rd26
  have y07 := k7.read (by have := (k5.trans k6).size; omega) y06
  have hgb : ∃ b, b = decide (xd = z ∧ xw = w) := ⟨_, rfl⟩
  obtain ⟨bb, hbb⟩ := hgb
  rw [← hbb] at f7 hqc
  have nbb : binP Try.prog .neq 4 (.bool bb) (.bool bb) = some (.bool false) := by rw [neB]; cases bb <;> rfl
  by_cases hn2 : c.length = 2
  case neg =>
    have hn2' : decide (¬ (c.length : Int) = 2) = true := decide_eq_true (by omega)
    clear hl hxl h40 h41 hbad hgood hR1 hps1 K14 hp o3 hg s3 g1 k1 hsh haw sv hfair hres5 hR5 s5 hbb hR7 k7 K4 K5 K6 g4 g5 k5 k6 g5' g7 hwl hn2 hu5
    rcases hqc with rfl | ⟨rfl, qa, qn, qc, rfl, hqd⟩
    · refine call_of Try.func7 rfl (Nat.le_of_ble_eq_true rfl) (hS.no rfl _ _) ?_
      rw [Try.ntmps7, Try.results7]
      repeat' (first | simp only [↓Zabg, ↓sxC_draw, ↓Zabd, ↓Zabf, ↓Zaad, ↓Zabe, ↓Zabr, ↓Zabq, ↓Zabn, ↓Zaae, ↓Zabm, ↓sxDL_assign, ↓sxDL_alloc, ↓sxDL_load, ↓Zabl, ↓sxDL_extract, ↓Zabw, ↓Zaao, ↓Zaal, ↓Zaaf, ↓bxOp_pick, ↓bxOp_alloc, ↓bxOp_box, ↓Zaak, ↓Zaam, ↓Zaag, ↓bxOp_un, ↓Zaah, ↓Zaai, ↓bxOp_extract, ↓Zaan, ↓Zaaj, ↓Zabt, ↓bxPut, ↓Zaaz, ↓Zaba, ↓Zaax, ↓Zabu, ↓Zabv, ↓Zabx, ↓Zaar, ↓Zaaq, ↓ev_func, ↓dstAt, ↓gval_some, Zabs, Zaaa, Zaas, una_nt, aPick_false, Zabh, sxGuardB_tf, sxGuardB_ff, sxIfB_t, sxIfB_f, Zaav, List.map_cons, List.map_nil, List.nil_append, List.append_nil, ↓reduceIte, Nat.reduceEqDiff, Nat.reduceLT, dec_F, Nat.add_zero, one1, Option.bind_some, not_true_eq_false, Option.map_some, *, argF, List.getD_cons_zero, List.getD_cons_succ, lenI, Q.cells_agg, paG0, ldIs, ldP, one1] | (with_reducible first | refine Zabj (by assumption) (by decide +kernel) ?_ | refine Zabi (by decide +kernel) ?_ | refine sxD_bar (by decide +kernel) ?_ | refine Zabk ?_))
    · refine call_of Try.func7 rfl (Nat.le_of_ble_eq_true rfl) (hS.no rfl _ _) ?_
      rw [Try.ntmps7, Try.results7]
      repeat' (first | simp only [↓Zabg, ↓sxC_draw, ↓Zabd, ↓Zabf, ↓Zaad, ↓Zabe, ↓Zabr, ↓Zabq, ↓Zabn, ↓Zaae, ↓Zabm, ↓sxDL_assign, ↓sxDL_alloc, ↓sxDL_load, ↓Zabl, ↓sxDL_extract, ↓Zabw, ↓Zaao, ↓Zaal, ↓Zaaf, ↓bxOp_pick, ↓bxOp_alloc, ↓bxOp_box, ↓Zaak, ↓Zaam, ↓Zaag, ↓bxOp_un, ↓Zaah, ↓Zaai, ↓bxOp_extract, ↓Zaan, ↓Zaaj, ↓Zabt, ↓bxPut, ↓Zaaz, ↓Zaba, ↓Zaax, ↓Zabu, ↓Zabv, ↓Zabx, ↓Zaar, ↓Zaaq, ↓ev_func, ↓dstAt, ↓gval_some, Zabs, Zaaa, Zaas, una_nt, aPick_true, aPick_false, Zabh, sxGuardB_tt, sxGuardB_ff, sxIfB_t, sxIfB_f, Zaav, List.map_cons, List.map_nil, List.nil_append, List.append_nil, ↓reduceIte, Nat.reduceEqDiff, Nat.reduceLT, dec_T, dec_F, Nat.add_zero, one1, Option.bind_some, not_true_eq_false, Option.map_some, *, argF, List.getD_cons_zero, List.getD_cons_succ, lenI, Q.cells_agg, paG0, ldIs, ldP, one1] | (with_reducible first | refine Zabj (by assumption) (by decide +kernel) ?_ | refine Zabi (by decide +kernel) ?_ | refine sxD_bar (by decide +kernel) ?_ | refine Zabk ?_))
  have hn2' : decide (¬ (c.length : Int) = 2) = false := decide_eq_false (by omega)
  rcases hqc with rfl | ⟨rfl, qa, qn, qc, rfl, hqd⟩
  · have hob := talmud_tail hS hn2 hp hsh hfair H6 g5' L6 (hl.keep K6) (sv.keep (k5.trans k6))
    obtain ⟨p0, p1, b, n, bq, zc, Ha, Hb, Hc, Hd, He, Hf, Hg, i0, i1, q0, q1, fa, da, ac, dc, se, rf, kf, lb, ld, lf, yf, fg⟩ := hob
    have y0f := kf.read (by have := (k5.trans k6).size; omega) y06
    clear hl hxl h40 h41 hbad hgood hR1 hps1 K14 hp o3 hg s3 g1 k1 hsh haw sv hfair hres5 hR5 s5 hbb hR7 k7 K4 K5 K6 g4 g5 k5 k6 g5' g7 kf hwl hn2 hu5
    refine call_of Try.func7 rfl (Nat.le_of_ble_eq_true rfl) (hS.no rfl _ _) ?_
    rw [Try.ntmps7, Try.results7]
    repeat' (first | simp only [↓Zabg, ↓sxC_draw, ↓Zabd, ↓Zabf, ↓Zaad, ↓Zabe, ↓Zabr, ↓Zabq, ↓Zabn, ↓Zaae, ↓Zabm, ↓sxDL_assign, ↓sxDL_alloc, ↓sxDL_load, ↓Zabl, ↓sxDL_extract, ↓sxD_same, ↓Zabw, ↓Zaao, ↓Zaal, ↓Zaaf, ↓bxOp_pick, ↓bxOp_alloc, ↓bxOp_box, ↓Zaak, ↓Zaam, ↓Zaag, ↓bxOp_un, ↓Zaah, ↓Zaai, ↓bxOp_extract, ↓Zaan, ↓Zaaj, ↓Zabt, ↓bxPut, ↓Zaaz, ↓Zaba, ↓Zaax, ↓Zabu, ↓Zabv, ↓Zabx, ↓Zaar, ↓Zaaq, ↓ev_func, ↓dstAt, ↓gval_some, Zabs, Zaaa, Zaas, una_nt, aPick_true, aPick_false, Zabh, sxGuardB_tt, sxGuardB_tf, sxGuardB_ff, sxIfB_f, Zaav, List.map_cons, List.map_nil, List.nil_append, List.append_nil, ↓reduceIte, Nat.reduceEqDiff, Nat.reduceLT, dec_T, dec_F, aLoad_relow, Nat.add_zero, one1, Option.bind_some, not_true_eq_false, Option.map_some, *, argF, List.getD_cons_zero, List.getD_cons_succ, lenI, Q.cells_agg, paG0, ldIs, ldI, ldP, one1] | (with_reducible first | refine Zabj (by assumption) (by decide +kernel) ?_ | refine Zabi (by decide +kernel) ?_ | refine sxD_bar (by decide +kernel) ?_ | refine Zabk ?_))
  · have hob := talmud_tail hS hn2 hp hsh hfair H7 g7 L7 (hl.keep (K6.trans k7)) (sv.keep ((k5.trans k6).trans k7))
    obtain ⟨p0, p1, b, n, bq, zc, Ha, Hb, Hc, Hd, He, Hf, Hg, i0, i1, q0, q1, fa, da, ac, dc, se, rf, kf, lb, ld, lf, yf, fg⟩ := hob
    have y0f := kf.read (by have := ((k5.trans k6).trans k7).size; omega) y07
    clear hl hxl h40 h41 hbad hgood hR1 hps1 K14 hp o3 hg s3 g1 k1 hsh haw sv hfair hres5 hR5 s5 hbb hR7 k7 K4 K5 K6 g4 g5 k5 k6 g5' g7 kf hwl hn2 hu5
    refine call_of Try.func7 rfl (Nat.le_of_ble_eq_true rfl) (hS.no rfl _ _) ?_
    rw [Try.ntmps7, Try.results7]
    repeat' (first | simp only [↓Zabg, ↓sxC_draw, ↓Zabd, ↓Zabf, ↓Zaad, ↓Zabe, ↓Zabr, ↓Zabq, ↓Zabn, ↓Zaae, ↓Zabm, ↓sxDL_assign, ↓sxDL_alloc, ↓sxDL_load, ↓Zabl, ↓sxDL_extract, ↓sxD_same, ↓Zabw, ↓Zaao, ↓Zaal, ↓Zaaf, ↓bxOp_pick, ↓bxOp_alloc, ↓bxOp_box, ↓Zaak, ↓Zaam, ↓Zaag, ↓bxOp_un, ↓Zaah, ↓Zaai, ↓bxOp_extract, ↓Zaan, ↓Zaaj, ↓Zabt, ↓bxPut, ↓Zaaz, ↓Zaba, ↓Zaax, ↓Zabu, ↓Zabv, ↓Zabx, ↓Zaar, ↓Zaaq, ↓ev_func, ↓dstAt, ↓gval_some, Zabs, Zaaa, Zaas, una_nt, aPick_true, aPick_false, Zabh, sxGuardB_tt, sxGuardB_ff, sxIfB_f, Zaav, List.map_cons, List.map_nil, List.nil_append, List.append_nil, ↓reduceIte, Nat.reduceEqDiff, Nat.reduceLT, dec_T, dec_F, aLoad_relow, Nat.add_zero, one1, Option.bind_some, not_true_eq_false, Option.map_some, *, argF, List.getD_cons_zero, List.getD_cons_succ, lenI, Q.cells_agg, paG0, ldIs, ldI, ldP, one1] | (with_reducible first | refine Zabj (by assumption) (by decide +kernel) ?_ | refine Zabi (by decide +kernel) ?_ | refine sxD_bar (by decide +kernel) ?_ | refine Zabk ?_))
end Go.Proofs.Ytpeoleimmabceaa
