/- The law QuotaLeaves on the canonical machine. -/
import Derived.Test.YtpeoleimmabceaaEK
set_option linter.unusedVariables false
set_option linter.unusedSimpArgs false
set_option linter.unusedSectionVars false

namespace Go.Proofs.Ytpeoleimmabceaa
open Go Go.AM
set_option maxRecDepth 10000

theorem sliceLo {H : Heap} {a : Option Addr} {n cp r o : Nat} {w : List Int} (h : SlI .i64 H (.slice a n cp) w r o) (hx : SlX H (.slice a n cp)) (h0 : 0 < n) {p : Nat} (hp : p ≤ n) :
    ∃ b cq, aSlice Try.prog H 22 (.slice a n cp) none (some (.int .i64 (p : Int))) none = some (.slice (some ⟨r, b, none⟩) p cq) ∧ SlI .i64 H (.slice (some ⟨r, b, none⟩) p cq) (w.take p) r b := by
  obtain ⟨a1, cap, e1, e2⟩ := h.isv
  cases e1
  obtain ⟨hnc, h4⟩ := hx _ _ _ rfl
  obtain ⟨r1, o1, row, e3, e4, e5, e6⟩ := h4 h0
  rw [e2 h0] at e3 ⊢
  cases e3
  have hlen : (w.take p).length = p := by rw [List.length_take]; omega
  obtain ⟨i, _, hi, hsz, _⟩ := infoI
  refine ⟨o + 0 * i.size, cp - 0, ?_, ⟨⟨_, _, by rw [hlen], fun _ => rfl⟩, fun j hj => ?_, fun _ => e4, by rw [hlen]; have := h.ml; omega⟩⟩
  · have hb : aBounds w.length cp none (some (.int .i64 (p : Int))) none = some (0, p, cp) := by
      unfold aBounds aBound
      have g1 : (0 : Int) ≤ (p : Int) ∧ (p : Int) ≤ (cp : Int) := by omega
      simp [g1]
    unfold aSlice
    rw [Try.underlying22]
    simp only []
    rw [hi, e5]
    simp only []
    rw [hb, show Nat.ble w.length cp = true from Nat.ble_eq_true_of_le hnc, e6]
    have hq : Nat.beq cp 0 = false := Trie.beq_ff (by omega)
    simp only [cond_true, hq, cond_false, Nat.sub_zero]
  · rw [hlen] at hj
    obtain ⟨es, g1, g2⟩ := h.rd j (by omega)
    refine ⟨es, by rw [Nat.zero_mul, Nat.add_zero]; exact g1, ?_⟩
    have : (w.take p).getD j default = w.getD j default := by
      rw [List.getD_eq_getElem?_getD, List.getD_eq_getElem?_getD, List.getElem?_take, if_pos hj]
    rw [this]; exact g2
theorem sliceHi {H : Heap} {a : Option Addr} {n cp r o : Nat} {w : List Int} (h : SlI .i64 H (.slice a n cp) w r o) (hx : SlX H (.slice a n cp)) (h0 : 0 < n) {p : Nat} (hp : p ≤ n) :
    ∃ b cq, aSlice Try.prog H 22 (.slice a n cp) (some (.int .i64 (p : Int))) none none = some (.slice (some ⟨r, b, none⟩) (n - p) cq) ∧ SlI .i64 H (.slice (some ⟨r, b, none⟩) (n - p) cq) (w.drop p) r b := by
  obtain ⟨a1, cap, e1, e2⟩ := h.isv
  cases e1
  obtain ⟨hnc, h4⟩ := hx _ _ _ rfl
  obtain ⟨r1, o1, row, e3, e4, e5, e6⟩ := h4 h0
  rw [e2 h0] at e3 ⊢
  cases e3
  have hlen : (w.drop p).length = w.length - p := by rw [List.length_drop]
  obtain ⟨i, _, hi, hsz, _⟩ := infoI
  refine ⟨cond (Nat.beq cp p) o (o + p * i.size), cp - p, ?_, ⟨⟨_, _, by rw [hlen], fun _ => rfl⟩, fun j hj => ?_, fun _ => e4, by rw [hlen]; have := h.ml; omega⟩⟩
  · have hb : aBounds w.length cp (some (.int .i64 (p : Int))) none none = some (p, w.length, cp) := by
      unfold aBounds aBound
      have g1 : (0 : Int) ≤ (p : Int) ∧ (p : Int) ≤ (w.length : Int) := by omega
      simp [g1]
    unfold aSlice
    rw [Try.underlying22]
    simp only []
    rw [hi, e5]
    simp only []
    rw [hb, show Nat.ble w.length cp = true from Nat.ble_eq_true_of_le hnc, e6]
    simp only [cond_true]
  · rw [hlen] at hj
    obtain ⟨es, g1, g2⟩ := h.rd (p + j) (by omega)
    have hq : Nat.beq cp p = false := Trie.beq_ff (by omega)
    have g1 : H.read r (o + (p + j) * 1) 1 = some es := g1
    refine ⟨es, ?_, ?_⟩
    · show H.read r (cond (Nat.beq cp p) o (o + p * i.size) + j * 1) 1 = some es
      rw [hq, cond_false, hsz, Nat.add_assoc, ← Nat.add_mul]
      exact g1
    · have : (w.drop p).getD j default = w.getD (p + j) default := by
        rw [List.getD_eq_getElem?_getD, List.getD_eq_getElem?_getD, List.getElem?_drop]
      rw [this]; exact g2
theorem plain_some (r o n c : Nat) : Plain0 (.slice (some ⟨r, o, none⟩) n c) := fun a' n' c' e => by cases e; exact .inl rfl
theorem ones_int {H : Heap} {x : Int} {cs : List Value} (h : (intE .i64).At H x cs) : ones cs = true := by
  obtain ⟨rfl, _⟩ := h; rfl
theorem boxShareD {S : AM.Sys} {H H1 : Heap} {rule e : Int} {c : List Int} {u : Value} (hL : H.low ≤ H.size) (h : PostSh RunR (H.relow H.size) rule e c u H1) :
    ∃ a n cp z f H2 H3 H4 H5 H6, u = .tuple ⟨[.agg ⟨[.slice a n cp, .int .i64 z]⟩, .int .i64 f]⟩ ∧ (∀ (all : List Oper) (n : Nat) (k : Heap → Prop), sxD all n H H1 k = k H2) ∧
      aAlloc Try.prog (H2.relow H2.size) 26 = some (.pointer (some ⟨H2.size, 0, none⟩), H3) ∧ (∀ (all : List Oper) (n : Nat) (k : Heap → Prop), sxD all n H2 H3 k = k H4) ∧
      aStore Try.prog (H4.relow H4.size) 26 (.pointer (some ⟨H2.size, 0, none⟩)) (.agg ⟨[.slice a n cp, .int .i64 z]⟩) = some H5 ∧ H5.relow (Nat.min H4.low H5.low) = H6 ∧
      Keep H H6 ∧ H6.low ≤ H6.size ∧ H2.size < H6.size ∧ H2.low ≤ H2.size ∧ H4.low ≤ H4.size ∧ Own H6 H2.size 26 [.slice a n cp, .int .i64 z] ∧ (¬ (Q.Prob e c ∧ isRule rule) → f = 2 ∧ n = 0 ∧ z = 0) ∧
      (Q.Prob e c ∧ isRule rule → f = 0 ∧ ∃ w r', n = c.length ∧ w.length = c.length ∧ Q.Shr e c w z ∧ Awd RunR rule e c w z ∧ SlI .i64 H6 (.slice a n cp) w r' 0) := by
  obtain ⟨a, n, cp, z, f, rfl, k1, hbad, hgood⟩ := h
  have k2 := Keep.draw k1
  have l2 := k2.low hL
  obtain ⟨H3, H4, e3, d3, k4, l4, o4, z4⟩ := allocD [.slice none 0 0, .int .i64 0] 26 l2
  have al3 : aAlloc Try.prog ((H1.relow (Nat.min H.low H1.low)).relow (H1.relow (Nat.min H.low H1.low)).size) 26 = some (.pointer (some ⟨(H1.relow (Nat.min H.low H1.low)).size, 0, none⟩), H3) := by rw [alP, e3]; rfl
  obtain ⟨H5, H6, st5, rl5, k6, z6, l6, o6, _⟩ := stPD k4 (Nat.le_refl _) l4 o4 rfl a n cp z
  refine ⟨a, n, cp, z, f, _, H3, H4, H5, H6, rfl, fun all n k => sxD_keep k1 k, al3, d3, st5, rl5, k2.trans k6, l6, by omega, l2, l4, o6, hbad, fun hp => ?_⟩
  obtain ⟨rfl, w, rfl, hsh, haw, v', r', hv', sv, hr'⟩ := hgood hp
  cases hv'
  exact ⟨rfl, w, r', hsh.1, hsh.1, hsh, haw, (sv.ge (H' := H1.relow (Nat.min H.low H1.low)) (stable_int _ 0) (fun _ => Nat.zero_le _) ⟨Nat.le_refl _, fun _ _ _ _ h => ⟨h, rfl⟩⟩).keep k6⟩

variable {S : AM.Sys} (hS : Only S 11)
include hS

set_option maxHeartbeats 16000000 in
theorem lawLeaves_runs (rule e : Int) (v : Value) (c : List Int) (r o : Nat) (who : Int) (hwho : 0 ≤ who ∧ who ≤ 255) (H : Heap) (hg : Grp H) (hL : H.low ≤ H.size) (hl : SlI .i64 H v c r o) (hx : SlX H v)
    (hO : ∀ H', S.O 11 [] H') : ∃ H', Runs Try.prog S (.fn 6) [.int .i64 rule, .int .i64 e, v, .int .u8 who] H (.bool true) H' := by
  suffices h : WCall Try.prog S (.fn 6) [.int .i64 rule, .int .i64 e, v, .int .u8 who] H (fun v H' => v = .bool true) by
    obtain ⟨_, H', hr, rfl⟩ := h; exact ⟨H', hr⟩
  have hk1 : ∀ (H' : Heap) (K : Value → Heap → Prop) (b : Blk K), sxCallB Try.prog S (.fn 11) [] H' K b = K (.bool true) H' := fun H' K b => known_bx (hO H')
  clear hO
  have hml := hl.ml
  have hlv := hl.v0
  obtain ⟨va, vc, rfl⟩ := hlv
  have f0 := (few_runs hS va c.length vc H).bx
  by_cases h40 : (c.length : Int) ≤ 40
  case neg =>
    rw [decide_eq_false h40] at f0
    clear hl h40 hx
    refine Zaat Try.func6 rfl (Nat.le_of_ble_eq_true rfl) (hS.no rfl _ _) ?_
    rw [Try.ntmps6, Try.results6]
    repeat' (first | (with_reducible refine Zaca (fun h => ?_) (fun h => ?_)) | (with_reducible refine Zabz (fun h => ?_) (fun h => ?_)) | (with_reducible refine Zacc (fun h => ?_) (fun h => ?_)) | simp only [↓Zabn, ↓sxC_draw, ↓Zabk, ↓Zabm, ↓Zaad, ↓bxC_loop, ↓Zabi, ↓Zabl, ↓Zacf, ↓Zace, ↓Zaby, ↓Zaae, ↓Zabw, ↓sxDL_assign, ↓sxDL_alloc, ↓Zabv, ↓Zabr, ↓Zabt, ↓Zabu, ↓sxDL_extract, ↓Zack, ↓Zaas, ↓Zaao, ↓Zaag, ↓Zaap, ↓Zaaf, ↓Zaan, ↓Zaaq, ↓Zaah, ↓bxOp_un, ↓bxOp_slice, ↓Zaak, ↓Zaal, ↓Zaaj, ↓Zaar, ↓Zaam, ↓bxOp_append, ↓bxOp_convert, ↓Zach, ↓bxPut, ↓Zabg, ↓Zabh, ↓Zabe, ↓Zaci, ↓Zacj, ↓Zacl, ↓Zaax, ↓Zaav, ↓Zaaw, ↓dstAt, ↓Zaay, Zacg, una_nf, aPick_true, Zabo, sxGuardB_ft, Zacd, Zabc, List.map_cons, List.map_nil, List.nil_append, List.append_nil, ↓reduceIte, Nat.reduceEqDiff, Nat.reduceLT, Option.map_some, Option.map_none, *, argF, List.getD_cons_zero, List.getD_cons_succ] | (with_reducible first | refine Zabq (by assumption) (by decide +kernel) ?_ | refine Zabp (by decide +kernel) ?_ | refine Zabx (by decide +kernel) ?_ | refine Zabs ?_))
  rw [decide_eq_true h40] at f0
  by_cases hr4 : rule = 4
  · have d4 : decide (rule = 4) = true := decide_eq_true hr4
    clear hl h40 hx hr4
    refine Zaat Try.func6 rfl (Nat.le_of_ble_eq_true rfl) (hS.no rfl _ _) ?_
    rw [Try.ntmps6, Try.results6]
    repeat' (first | (with_reducible refine Zaca (fun h => ?_) (fun h => ?_)) | (with_reducible refine Zabz (fun h => ?_) (fun h => ?_)) | (with_reducible refine Zacc (fun h => ?_) (fun h => ?_)) | simp only [↓Zabn, ↓sxC_draw, ↓Zabk, ↓Zabm, ↓Zaad, ↓bxC_loop, ↓Zabi, ↓Zabl, ↓Zacf, ↓Zace, ↓Zaby, ↓Zaae, ↓Zabw, ↓sxDL_assign, ↓sxDL_alloc, ↓Zabv, ↓Zabr, ↓Zabt, ↓Zabu, ↓sxDL_extract, ↓Zack, ↓Zaas, ↓Zaao, ↓Zaag, ↓Zaap, ↓Zaaf, ↓Zaan, ↓Zaaq, ↓Zaah, ↓bxOp_un, ↓bxOp_slice, ↓Zaak, ↓Zaal, ↓Zaaj, ↓Zaar, ↓Zaam, ↓bxOp_append, ↓bxOp_convert, ↓Zach, ↓bxPut, ↓Zabg, ↓Zabh, ↓Zabe, ↓Zaci, ↓Zacj, ↓Zacl, ↓Zaax, ↓Zaav, ↓Zaaw, ↓dstAt, ↓Zaay, Zacg, Zaaa, Zaaz, una_nt, aPick_false, Zabo, sxGuardB_ff, Zacd, Zabc, List.map_cons, List.map_nil, List.nil_append, List.append_nil, ↓reduceIte, Nat.reduceEqDiff, Nat.reduceLT, Option.map_some, Option.map_none, *, argF, List.getD_cons_zero, List.getD_cons_succ] | (with_reducible first | refine Zabq (by assumption) (by decide +kernel) ?_ | refine Zabp (by decide +kernel) ?_ | refine Zabx (by decide +kernel) ?_ | refine Zabs ?_))
  have d4 : decide (rule = 4) = false := decide_eq_false hr4
  have ex0 : ∀ x y : Value, aExtract (.tuple ⟨[x, y]⟩) 0 = some x := fun x y => by kernel_rfl
  have ex1 : ∀ x y : Value, aExtract (.tuple ⟨[x, y]⟩) 1 = some y := fun x y => by kernel_rfl
  have hob := ShareR_runs hS rule e _ c r o H hg hL hl
  obtain ⟨u1, H1, hR1, hps1⟩ := hob
  have hob := boxShare hps1
  obtain ⟨a, n, cp, z, f, H2, H3, rfl, al2, st3, K3, s3, o3, hbad, hgood⟩ := hob
  have f1 := hR1.bx
  have hob := ownP o3
  obtain ⟨y0, y1, y2⟩ := hob
  have z0 : decide ((0 : Int) = 0) = true := rfl
  have z1 : decide (¬ (0 : Int) = 0) = false := rfl
  have z3' : decide (¬ (2 : Int) = 0) = true := rfl
  by_cases hp : Q.Prob e c ∧ isRule rule
  case neg =>
    have hb := hbad hp
    obtain ⟨rfl, rfl, rfl⟩ := hb
    clear hl h40 hbad hgood hR1 hps1 K3 hp o3 hg s3 hx
    refine Zaat Try.func6 rfl (Nat.le_of_ble_eq_true rfl) (hS.no rfl _ _) ?_
    rw [Try.ntmps6, Try.results6]
    repeat' (first | (with_reducible refine Zaca (fun h => ?_) (fun h => ?_)) | (with_reducible refine Zabz (fun h => ?_) (fun h => ?_)) | (with_reducible refine Zacc (fun h => ?_) (fun h => ?_)) | simp only [↓Zabn, ↓sxC_draw, ↓Zabk, ↓Zabm, ↓Zaad, ↓bxC_loop, ↓Zabi, ↓Zabl, ↓Zacf, ↓Zace, ↓Zaby, ↓Zaae, ↓Zabw, ↓sxDL_assign, ↓sxDL_alloc, ↓Zabv, ↓Zabr, ↓Zabt, ↓Zabu, ↓sxDL_extract, ↓Zack, ↓Zaas, ↓Zaao, ↓Zaag, ↓Zaap, ↓Zaaf, ↓Zaan, ↓Zaaq, ↓Zaah, ↓bxOp_un, ↓bxOp_slice, ↓Zaak, ↓Zaal, ↓Zaaj, ↓Zaar, ↓Zaam, ↓bxOp_append, ↓bxOp_convert, ↓Zach, ↓bxPut, ↓Zabg, ↓Zabh, ↓Zabe, ↓Zaci, ↓Zacj, ↓Zacl, ↓Zaax, ↓Zaav, ↓Zaaw, ↓dstAt, ↓Zaay, Zacg, Zaaa, Zaaz, una_nt, aPick_true, aPick_false, Zabo, sxGuardB_ft, sxGuardB_ff, Zacd, Zacb, Zabc, List.map_cons, List.map_nil, List.nil_append, List.append_nil, ↓reduceIte, Nat.reduceEqDiff, Nat.reduceLT, dec_F, Option.map_some, Option.map_none, *, argF, List.getD_cons_zero, List.getD_cons_succ] | (with_reducible first | refine Zabq (by assumption) (by decide +kernel) ?_ | refine Zabp (by decide +kernel) ?_ | refine Zabx (by decide +kernel) ?_ | refine Zabs ?_))
  have hgd := hgood hp
  obtain ⟨rfl, w, r', rfl, hwl, hsh, haw, sv⟩ := hgd
  by_cases h2c : (c.length : Int) < 2
  · clear hl h40 hbad hgood hR1 hps1 K3 hp o3 hg s3 hx sv haw hsh hwl
    refine Zaat Try.func6 rfl (Nat.le_of_ble_eq_true rfl) (hS.no rfl _ _) ?_
    rw [Try.ntmps6, Try.results6]
    repeat' (first | (with_reducible refine Zaca (fun h => ?_) (fun h => ?_)) | (with_reducible refine Zabz (fun h => ?_) (fun h => ?_)) | (with_reducible refine Zacc (fun h => ?_) (fun h => ?_)) | simp only [↓Zabn, ↓sxC_draw, ↓Zabk, ↓Zabm, ↓Zaad, ↓bxC_loop, ↓Zabi, ↓Zabl, ↓Zacf, ↓Zace, ↓Zaby, ↓Zaae, ↓Zabw, ↓sxDL_assign, ↓sxDL_alloc, ↓Zabv, ↓Zabr, ↓Zabt, ↓Zabu, ↓sxDL_extract, ↓Zack, ↓Zaas, ↓Zaao, ↓Zaag, ↓Zaap, ↓Zaaf, ↓Zaan, ↓Zaaq, ↓Zaah, ↓bxOp_un, ↓bxOp_slice, ↓Zaak, ↓Zaal, ↓Zaaj, ↓Zaar, ↓Zaam, ↓bxOp_append, ↓bxOp_convert, ↓Zach, ↓bxPut, ↓Zabg, ↓Zabh, ↓Zabe, ↓Zaci, ↓Zacj, ↓Zacl, ↓Zaax, ↓Zaav, ↓Zaaw, ↓dstAt, ↓Zaay, Zacg, Zaaa, Zaaz, una_nt, aPick_false, Zabo, sxGuardB_ff, Zacd, Zacb, Zabc, List.map_cons, List.map_nil, List.nil_append, List.append_nil, ↓reduceIte, Nat.reduceEqDiff, Nat.reduceLT, dec_T, dec_F, not_true_eq_false, Option.map_some, Option.map_none, *, argF, List.getD_cons_zero, List.getD_cons_succ, lenI] | (with_reducible first | refine Zabq (by assumption) (by decide +kernel) ?_ | refine Zabp (by decide +kernel) ?_ | refine Zabx (by decide +kernel) ?_ | refine Zabs ?_))
  have hdz := hsh.2.1
  have L3 := K3.low hL
  have hob := shaped_runs hS a c.length cp z (by omega) H3
  obtain ⟨H4, k4, hR4⟩ := hob
  have f4 := hR4.bx
  have K4 := K3.trans k4
  have L4 := K4.low hL
  have g4 := K4.grp hg
  have o4 := o3.keep k4
  have hob := ownP o4
  obtain ⟨y3, y4, y5⟩ := hob
  have hl4 := hl.keep K4
  have hx4 := hx.keep K4
  have sv4 := sv.keep k4
  have hgp : ∃ p : Nat, who.tmod (c.length : Int) = (p : Int) ∧ p < c.length := by
    have h1 : who.tmod (c.length : Int) = who % (c.length : Int) := Int.tmod_eq_emod_of_nonneg hwho.1
    have h2 := Int.emod_nonneg who (show (c.length : Int) ≠ 0 by omega)
    have h3 := Int.emod_lt_of_pos who (show 0 < (c.length : Int) by omega)
    exact ⟨(who.tmod (c.length : Int)).toNat, by omega, by omega⟩
  obtain ⟨p, hpt, hpl⟩ := hgp
  have hwc : IntKind.i64.wrap who = who := IntWalk.i64_in _ (by omega)
  have hn0 : ¬ (c.length : Int) = 0 := by omega
  have sv4w : SlI .i64 H4 (.slice a w.length cp) w r' 0 := by rw [hwl]; exact sv4
  have hixw := SlI_ix sv4w (k := p) (by omega)
  rw [hwl, Nat.zero_add] at hixw
  have hrdw := (sv4.rdI (i := p) (by omega)).1
  rw [Nat.zero_add] at hrdw
  have hwp := hsh.2.2.1 p (by omega)
  have hzn : ¬ z = 0 := by omega
  have htm : (w.getD p 0).tmod z = w.getD p 0 % z := Int.tmod_eq_emod_of_nonneg hwp.1
  by_cases hrem : w.getD p 0 % z = 0
  case neg =>
    have d5 : decide (¬ w.getD p 0 % z = 0) = true := decide_eq_true hrem
    clear hl h40 hbad hgood hR1 hps1 K3 hp o3 o4 hg s3 hx sv sv4 sv4w haw hsh hwl hl4 hx4 hR4 k4 K4 g4 hwp hrem
    refine Zaat Try.func6 rfl (Nat.le_of_ble_eq_true rfl) (hS.no rfl _ _) ?_
    rw [Try.ntmps6, Try.results6]
    repeat' (first | (with_reducible refine Zaca (fun h => ?_) (fun h => ?_)) | (with_reducible refine Zabz (fun h => ?_) (fun h => ?_)) | (with_reducible refine Zacc (fun h => ?_) (fun h => ?_)) | simp only [↓Zabn, ↓sxC_draw, ↓Zabk, ↓Zabm, ↓Zaad, ↓bxC_loop, ↓Zabi, ↓Zabl, ↓Zacf, ↓Zace, ↓Zaby, ↓Zaae, ↓Zabw, ↓sxDL_assign, ↓sxDL_alloc, ↓Zabv, ↓Zabr, ↓Zabt, ↓Zabu, ↓sxDL_extract, ↓sxD_same, ↓Zack, ↓Zaas, ↓Zaao, ↓Zaag, ↓Zaap, ↓Zaaf, ↓Zaan, ↓Zaaq, ↓Zaah, ↓bxOp_un, ↓bxOp_slice, ↓Zaak, ↓Zaal, ↓Zaaj, ↓Zaar, ↓Zaam, ↓bxOp_append, ↓bxOp_convert, ↓Zach, ↓bxPut, ↓Zabg, ↓Zabh, ↓Zabe, ↓Zaci, ↓Zacj, ↓Zacl, ↓Zaax, ↓Zaav, ↓Zaaw, ↓dstAt, ↓Zaay, aConvH_int, Zacg, Zaaa, Zaaz, una_nt, aPick_false, Zabo, sxGuardB_ff, Zacd, Zacb, Zabc, List.map_cons, List.map_nil, List.nil_append, List.append_nil, ↓reduceIte, Nat.reduceEqDiff, Nat.reduceLT, dec_F, aLoad_relow, Nat.add_zero, one1, Option.bind_some, ne_eq, not_true_eq_false, not_false_eq_true, Option.map_some, Option.map_none, *, argF, List.getD_cons_zero, List.getD_cons_succ, lenI, paG0, paG1, ldIs, ldI, ldP, one1, cv8] | (with_reducible first | refine Zabq (by assumption) (by decide +kernel) ?_ | refine Zabp (by decide +kernel) ?_ | refine Zabx (by decide +kernel) ?_ | refine Zabs ?_))
    all_goals exact ⟨hzn, hn0⟩
  have d5 : decide (¬ w.getD p 0 % z = 0) = false := decide_eq_false fun h => h hrem
  have hgq : ∃ q, q = w.getD p 0 / z := ⟨_, rfl⟩
  obtain ⟨q, hq⟩ := hgq
  have hqz : w.getD p 0 = q * z := by rw [hq]; exact (Int.ediv_mul_cancel (Int.dvd_of_emod_eq_zero hrem)).symm
  have hqd : (w.getD p 0).tdiv z = q := by rw [Int.tdiv_eq_ediv_of_nonneg hwp.1, hq]
  have hrm := awd_rm hp.1 hsh hpl (by omega) hr4 hp.2 hqz haw
  obtain ⟨hP', haw'⟩ := hrm
  have hPe := hP'.1
  have hPe2 := hp.1.1
  have hwq : IntKind.i64.wrap q = q := IntWalk.i64_in _ (by omega)
  have hwe : IntKind.i64.wrap (e - q) = e - q := IntWalk.i64_in _ (by omega)
  have hws := wrap_succ hpl hml
  have hob := sliceLo hl4 hx4 (by omega) (p := p) (by omega)
  obtain ⟨b5, q5, sl5, s5⟩ := hob
  have hob := s5.first Nat.one_pos (plain_some _ _ _ _)
  obtain ⟨new5, n1, n2, n3⟩ := hob
  have hlt5 : (c.take p).length = p := by rw [List.length_take]; omega
  have hob := (LstG.nil (E := intE .i64) (e := 3) (L := H4.size) (H := H4)).put (P := Try.prog) (ts := #[22, 22]) elemOkI (stable_int _ _) g4 (Nat.le_refl _) n3 n2 rfl (Chunks.ones (fun h => ones_int h) n1) n1 (by simp; omega)
  obtain ⟨v5, H5, ap5, l5, gr5⟩ := hob
  have K45 := gr5.base H4 g4 (Keep.refl _) (Nat.le_refl _)
  have hob := sliceHi (hl4.keep K45) (hx4.keep K45) (by omega) (p := p + 1) (by omega)
  obtain ⟨b6, q6, sl6, s6⟩ := hob
  have hob := s6.first Nat.one_pos (plain_some _ _ _ _)
  obtain ⟨new6, m1, m2, m3⟩ := hob
  have hlt6 : (c.drop (p + 1)).length = c.length - (p + 1) := by rw [List.length_drop]
  have hob := l5.put (P := Try.prog) (ts := #[22, 22]) elemOkI (stable_int _ _) (gr5.grp g4) K45.size m3 m2 rfl (Chunks.ones (fun h => ones_int h) m1) m1 (by simp; omega)
  obtain ⟨v6, H6, ap6, l6, gr6⟩ := hob
  have K46 := gr6.base H4 g4 K45 (Nat.le_refl _)
  have hrl := rm_len hpl
  have l6 : LstG (intE .i64) 3 H4.size H6 v6 (rm c p) := l6
  have hv6 := l6.isv
  obtain ⟨ra, hv6⟩ := hv6
  rw [hrl] at hv6
  have hob := l6.sl (by rw [hrl]; omega)
  obtain ⟨rr, s6', _⟩ := hob
  subst hv6
  have L6 := K46.low L4
  have g6 := K46.grp g4
  have hob := ShareR_runs hS rule (e - q) _ (rm c p) rr 0 (H6.relow H6.size) g6 (Nat.le_refl _) (s6'.keep (Keep.relowS H6))
  obtain ⟨u7, H7, hR7, hps7⟩ := hob
  have hob := boxShareD (S := S) L6 hps7
  obtain ⟨a', n', cp', z', f', H8, H9, Ha, Hb, Hc, rfl, d7, al8, d9, stb, rlb, K6c, Lc, sc, L8, La, oc, _, hgood'⟩ := hob
  have hgd := hgood' ⟨hP', hp.2⟩
  obtain ⟨rfl, w', r2', rfl, hwl', hsh', haw2, sv'⟩ := hgd
  have f7 := hR7.bx
  rw [hrl] at f7 stb
  have hdz' := hsh'.2.1
  have hsame := fun i (hi : i < (rm c p).length) => awd_same hP' (by rw [rm_len (by omega), hrl, hwl]) hwl' hdz.1 hdz'.1 haw' haw2 hi
  have K4c := K46.trans K6c
  have hob := shaped_runs hS a' (c.length - 1) cp' z' (by omega) Hc
  obtain ⟨Hd, kd, hRd⟩ := hob
  have fd := hRd.bx
  have y6 := K46.read (by have := o4.lt; omega) y4
  have y7 := K46.read (by have := o4.lt; omega) y5
  have hrd6 := K46.read (sv4w.lt (by omega)) hrdw
  have hob := ownP oc
  obtain ⟨x0, x1, x2⟩ := hob
  rw [hrl] at x0 x1
  have od := oc.keep kd
  rw [hrl] at od
  have K4d := K4c.trans kd
  have o4d := o4.keep K4d
  have svd := sv4w.keep K4d
  have sv'd := sv'.keep kd
  have Ld := kd.low Lc
  have gd := K4d.grp g4
  have hrng := hsh.2.2.1
  have hrng' := hsh'.2.2.1
  rw [hwl] at svd
  rw [hrl] at sv'd hwl' hsame
  clear hl h40 hbad hgood hR1 hps1 K3 hp o3 o4 hg s3 hx sv sv4 sv4w haw hsh hl4 hx4 hR4 k4 K4 g4 hwp hrem hq hqz haw' hP' hPe hPe2 s5 n1 n2 n3 l5 gr5 K45 s6 m1 m2 m3 l6 gr6 K46 s6' g6 hR7 hps7 hgood' hsh' haw2 sv' K4c hRd K6c oc kd K4d hlt5 hlt6 hrl htm
  refine Zaat Try.func6 rfl (Nat.le_of_ble_eq_true rfl) (hS.no rfl _ _) ?_
  rw [Try.ntmps6, Try.results6]
  repeat' (first | (with_reducible refine Zaca (fun h => ?_) (fun h => ?_)) | (with_reducible refine Zabz (fun h => ?_) (fun h => ?_)) | (with_reducible refine Zacc (fun h => ?_) (fun h => ?_)) | simp only [↓Zabn, ↓sxC_draw, ↓Zabk, ↓Zabm, ↓Zaad, ↓bxC_loop, ↓Zabi, ↓Zabl, ↓Zacf, ↓Zace, ↓Zaby, ↓Zaae, ↓Zabw, ↓sxDL_assign, ↓sxDL_alloc, ↓Zabv, ↓Zabr, ↓Zabt, ↓Zabu, ↓sxDL_extract, ↓sxD_same, ↓Zack, ↓Zaas, ↓Zaao, ↓Zaag, ↓Zaap, ↓Zaaf, ↓Zaan, ↓Zaaq, ↓Zaah, ↓bxOp_un, ↓bxOp_slice, ↓Zaak, ↓Zaal, ↓Zaaj, ↓Zaar, ↓Zaam, ↓bxOp_append, ↓bxOp_convert, ↓Zach, ↓bxPut, ↓Zabg, ↓Zabh, ↓Zabe, ↓Zaci, ↓Zacj, ↓Zacl, ↓Zaax, ↓Zaav, ↓Zaaw, ↓dstAt, ↓Zaay, aConvH_int, aSliceH_slice, Zacg, Zaaa, Zaaz, una_nt, aPick_false, Zabo, sxGuardB_ff, Zacb, Zabc, List.map_cons, List.map_nil, List.nil_append, List.append_nil, ↓reduceIte, Nat.reduceEqDiff, Nat.reduceLT, dec_T, dec_F, aLoad_relow, Nat.add_zero, one1, Option.bind_some, ne_eq, not_true_eq_false, not_false_eq_true, Option.map_some, Option.map_none, *, argF, List.getD_cons_zero, List.getD_cons_succ, lenI, paG0, paG1, ldIs, ldI, ldP, one1, cv8] | (with_reducible first | refine Zabq (by assumption) (by decide +kernel) ?_ | refine Zabp (by decide +kernel) ?_ | refine Zabx (by decide +kernel) ?_ | refine Zabs ?_))
  clear f0 f1 f4 f7 fd st3 al2 y0 y1 y2 y3 y4 y5 y6 y7 hrd6 sl5 ap5 sl6 ap6 d7 al8 d9 stb rlb x0 x1 x2 hixw hrdw hws
  have hml1 : c.length - 1 ≤ Go.maxLen := by omega
  refine sxL_of (fun m ρ H9 => ∃ i : Nat, m = c.length - 1 - i ∧ i ≤ c.length - 1 ∧ Keep Hd H9 ∧ ρ 9 = .pointer (some ⟨H1.size, 0, none⟩) ∧ ρ 11 = .int .i64 (p : Int) ∧ ρ 12 = .slice ra (c.length - 1) (c.length - 1) ∧ ρ 13 = .pointer (some ⟨H8.size, 0, none⟩) ∧ ρ 15 = .int .i64 (i : Int))
    ⟨0, rfl, Nat.zero_le _, Keep.refl _, rfl, rfl, rfl, rfl, rfl⟩ ?_
  rintro m ρ H9 ⟨i, rfl, hi, k9, e9, e11, e12, e13, e15⟩
  by_cases hlt : i < c.length - 1
  case neg =>
    have hlt' : ¬ (i : Int) < ((c.length - 1 : Nat) : Int) := by omega
    clear svd sv'd od o4d hrng hrng' hsame
    repeat' (first | (with_reducible refine Zaca (fun h => ?_) (fun h => ?_)) | (with_reducible refine Zabz (fun h => ?_) (fun h => ?_)) | (with_reducible refine Zacc (fun h => ?_) (fun h => ?_)) | simp only [↓Zabn, ↓sxC_draw, ↓Zabk, ↓Zabm, ↓Zaad, ↓Zabi, ↓Zabj, ↓Zabl, ↓Zacf, ↓Zace, ↓Zaby, ↓Zaae, ↓Zabw, ↓Zabv, ↓Zabr, ↓Zack, ↓Zaao, ↓Zaag, ↓Zaan, ↓Zaah, ↓Zaar, ↓Zaam, ↓bxPut, ↓Zabg, ↓Zabf, ↓Zabh, ↓Zaac, ↓blockQ_ret, ↓Zaab, ↓Zabb, ↓Zaba, ↓loopQ_ret, ↓Zabe, ↓Zaci, ↓Zacj, ↓Zacl, ↓Zaax, ↓Zaav, ↓Zaaw, Zacg, Zaaa, Zaaz, Zabo, Zacb, Zabc, List.map_nil, List.nil_append, List.append_nil, ↓reduceIte, Nat.reduceEqDiff, Nat.reduceLT, dec_F, *, lenI] | (with_reducible first | refine Zabq (by assumption) (by decide +kernel) ?_ | refine Zabp (by decide +kernel) ?_ | refine Zabx (by decide +kernel) ?_ | refine Zabs ?_))
  have hlt' : (i : Int) < ((c.length - 1 : Nat) : Int) := by omega
  have hwi := wrap_succ hlt hml1
  have L9 := k9.low Ld
  have g9 := k9.grp gd
  have hat := at_lt (p := p) hlt
  have hob := cmpD2 hS _ _ w' w z' z r2' r' i (at' p i) H9 g9 L9 (sv'd.keep k9) (svd.keep k9) (by omega) (by omega) (hrng' i (by omega)).1 (hrng (at' p i) (by omega)).1 (by omega) (by omega)
  obtain ⟨x1, Ha, Hb, x2, Hc, He', He, Hf, kb, lb, kd, ld, kf, lf, fa, da, fc, dc, fe, de⟩ := hob
  have hob := ownP (od.keep k9)
  obtain ⟨y0, _, _⟩ := hob
  have hob := ownP (o4d.keep (k9.trans kb))
  obtain ⟨y1, _, _⟩ := hob
  have hsm := hsame i hlt
  rw [rm_at (by omega) (by omega)] at hsm
  have hsg : sgn3 (w'.getD i 0 * z) (w.getD (at' p i) 0 * z') = 0 := by
    unfold sgn3
    rw [if_neg (by omega), if_neg (by omega)]
  rw [hsg] at fe
  have k9f := k9.trans kf
  clear svd sv'd od o4d hrng hrng' hsame hsm hsg kb kd kf k9 hwl hwl' g9 gd
  by_cases hpi : i < p
  · have hge : ¬ (p : Int) ≤ (i : Int) := by omega
    have hae : at' p i = i := if_pos hpi
    rw [hae] at fc
    clear hae hat hpi
    repeat' (first | (with_reducible refine Zaca (fun h => ?_) (fun h => ?_)) | (with_reducible refine Zabz (fun h => ?_) (fun h => ?_)) | (with_reducible refine Zacc (fun h => ?_) (fun h => ?_)) | simp only [↓Zabn, ↓sxC_draw, ↓Zabk, ↓Zabm, ↓Zaad, ↓Zabi, ↓Zabj, ↓Zabl, ↓Zacf, ↓Zace, ↓Zaby, ↓Zaae, ↓Zabw, ↓Zabv, ↓Zabr, ↓sxD_same, ↓Zack, ↓Zaao, ↓Zaag, ↓Zaan, ↓Zaah, ↓Zaar, ↓Zaam, ↓bxPut, ↓Zabg, ↓Zabf, ↓Zabh, ↓Zaac, ↓blockQ_ret, ↓Zaab, ↓Zabb, ↓Zaba, ↓loopQ_ret, ↓Zabe, ↓Zaci, ↓Zacj, ↓Zacl, ↓Zaax, ↓Zaav, ↓Zaaw, Zacg, Zaaa, Zaaz, Zabo, Zacd, Zacb, Zabc, List.map_cons, List.map_nil, List.nil_append, List.append_nil, ↓reduceIte, Nat.reduceEqDiff, Nat.reduceLT, dec_T, dec_F, true_and, aLoad_relow, not_true_eq_false, Option.map_some, *, lenI, ldP] | (with_reducible first | refine Zabq (by assumption) (by decide +kernel) ?_ | refine Zabp (by decide +kernel) ?_ | refine Zabx (by decide +kernel) ?_ | refine Zabs ?_))
    exact ⟨c.length - 1 - (i + 1), by omega, i + 1, rfl, by omega, rfl⟩
  · have hge : (p : Int) ≤ (i : Int) := by omega
    have hae : at' p i = i + 1 := if_neg hpi
    rw [hae] at fc
    clear hae hat hpi
    repeat' (first | (with_reducible refine Zaca (fun h => ?_) (fun h => ?_)) | (with_reducible refine Zabz (fun h => ?_) (fun h => ?_)) | (with_reducible refine Zacc (fun h => ?_) (fun h => ?_)) | simp only [↓Zabn, ↓sxC_draw, ↓Zabk, ↓Zabm, ↓Zaad, ↓Zabi, ↓Zabj, ↓Zabl, ↓Zacf, ↓Zace, ↓Zaby, ↓Zaae, ↓Zabw, ↓Zabv, ↓Zabr, ↓sxD_same, ↓Zack, ↓Zaao, ↓Zaag, ↓Zaan, ↓Zaah, ↓Zaar, ↓Zaam, ↓bxPut, ↓Zabg, ↓Zabf, ↓Zabh, ↓Zaac, ↓blockQ_ret, ↓Zaab, ↓Zabb, ↓Zaba, ↓loopQ_ret, ↓Zabe, ↓Zaci, ↓Zacj, ↓Zacl, ↓Zaax, ↓Zaav, ↓Zaaw, Zacg, Zaaa, Zaaz, Zabo, Zacd, Zacb, Zabc, List.map_cons, List.map_nil, List.nil_append, List.append_nil, ↓reduceIte, Nat.reduceEqDiff, Nat.reduceLT, dec_T, dec_F, true_and, aLoad_relow, not_true_eq_false, Option.map_some, *, lenI, ldP] | (with_reducible first | refine Zabq (by assumption) (by decide +kernel) ?_ | refine Zabp (by decide +kernel) ?_ | refine Zabx (by decide +kernel) ?_ | refine Zabs ?_))
    exact ⟨c.length - 1 - (i + 1), by omega, i + 1, rfl, by omega, rfl⟩
end Go.Proofs.Ytpeoleimmabceaa
