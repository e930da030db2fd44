/- Fractions as pairs: sums, differences, products, with bounds that carry. -/
import Derived.Test.YtnbhjbelgmkpeaaDoorL2
set_option linter.unusedVariables false
set_option linter.unusedSimpArgs false
set_option linter.unusedSectionVars false

namespace Go.Proofs.YtnbhjbelgmkpeaaDoor
open Go Go.AM
set_option maxRecDepth 10000
set_option linter.unusedSimpArgs false

def qmul (p q : Int × Int) : Int × Int := (p.1 * q.1, p.2 * q.2)
def qadd (p q : Int × Int) : Int × Int := (p.1 * q.2 + q.1 * p.2, p.2 * q.2)
def qsub (p q : Int × Int) : Int × Int := (p.1 * q.2 - q.1 * p.2, p.2 * q.2)
abbrev PV (H : Heap) (v : Value) (p : Int × Int) : Prop := QV H v p.1 p.2
/-- A fraction of numbers of so many digits to the base 10000. -/
def okF (k : Nat) (p : Int × Int) : Prop := 0 < p.2 ∧ (p.1.natAbs : Int) < 10000 ^ k ∧ p.2 < 10000 ^ k
theorem pow_le10 {a b : Nat} (h : a ≤ b) : (10000 : Int) ^ a ≤ 10000 ^ b := pow_mono h
theorem pow10_pos (a : Nat) : (0 : Int) < 10000 ^ a := Int.pow_pos (by decide)
theorem okF.mono {a b : Nat} {p : Int × Int} (h : okF a p) (hab : a ≤ b) : okF b p := ⟨h.1, Int.lt_of_lt_of_le h.2.1 (pow_le10 hab), Int.lt_of_lt_of_le h.2.2 (pow_le10 hab)⟩
theorem mul_lt10 {a b : Nat} {x y : Int} (hx : (x.natAbs : Int) < 10000 ^ a) (hy : (y.natAbs : Int) < 10000 ^ b) : ((x * y).natAbs : Int) < 10000 ^ (a + b) := by
  have e : ∀ k : Nat, (10000 : Int) ^ k = ((10000 ^ k : Nat) : Int) := fun k => by rw [Int.natCast_pow]; rfl
  rw [e] at hx hy ⊢
  have hx : x.natAbs < 10000 ^ a := Int.ofNat_lt.1 hx
  have hy : y.natAbs < 10000 ^ b := Int.ofNat_lt.1 hy
  refine Int.ofNat_lt.2 ?_
  rw [Int.natAbs_mul, Nat.pow_add]
  exact Nat.mul_lt_mul'' hx hy
theorem abs_of_pos {y : Int} (h : 0 < y) : (y.natAbs : Int) = y := by omega
theorem okF.mul {a b : Nat} {p q : Int × Int} (h : okF a p) (k : okF b q) : okF (a + b) (qmul p q) := by
  refine ⟨Int.mul_pos h.1 k.1, mul_lt10 h.2.1 k.2.1, ?_⟩
  have := mul_lt10 (x := p.2) (y := q.2) (by rw [abs_of_pos h.1]; exact h.2.2) (by rw [abs_of_pos k.1]; exact k.2.2)
  rwa [abs_of_pos (Int.mul_pos h.1 k.1)] at this
theorem pow_succ10 (a : Nat) : (10000 : Int) ^ (a + 1) = 10000 * 10000 ^ a := by rw [Int.pow_succ, Int.mul_comm]
theorem okF.den {a b : Nat} {p q : Int × Int} (h : okF a p) (k : okF b q) : 0 < p.2 * q.2 ∧ p.2 * q.2 < 10000 ^ (a + b + 1) := by
  have h1 := (h.mul k).2.2
  have h2 := pow10_pos (a + b)
  refine ⟨Int.mul_pos h.1 k.1, ?_⟩
  rw [pow_succ10]
  show p.2 * q.2 < _
  have h1 : p.2 * q.2 < 10000 ^ (a + b) := h1
  omega
theorem okF.cross {a b : Nat} {p q : Int × Int} (h : okF a p) (k : okF b q) : ((p.1 * q.2).natAbs : Int) < 10000 ^ (a + b) ∧ ((q.1 * p.2).natAbs : Int) < 10000 ^ (a + b) := by
  refine ⟨mul_lt10 h.2.1 (by rw [abs_of_pos k.1]; exact k.2.2), ?_⟩
  rw [Nat.add_comm]
  exact mul_lt10 k.2.1 (by rw [abs_of_pos h.1]; exact h.2.2)
theorem okF.add {a b : Nat} {p q : Int × Int} (h : okF a p) (k : okF b q) : okF (a + b + 1) (qadd p q) := by
  obtain ⟨d1, d2⟩ := h.den k
  obtain ⟨c1, c2⟩ := h.cross k
  refine ⟨d1, ?_, d2⟩
  rw [pow_succ10]
  show ((p.1 * q.2 + q.1 * p.2).natAbs : Int) < _
  omega
theorem okF.sub {a b : Nat} {p q : Int × Int} (h : okF a p) (k : okF b q) : okF (a + b + 1) (qsub p q) := by
  obtain ⟨d1, d2⟩ := h.den k
  obtain ⟨c1, c2⟩ := h.cross k
  refine ⟨d1, ?_, d2⟩
  rw [pow_succ10]
  show ((p.1 * q.2 - q.1 * p.2).natAbs : Int) < _
  omega
theorem okF_part {B : Int} {p : Int × Int} (h : isPart B p = true) (hB : B ≤ 1073741824) : okF 3 p := by
  obtain ⟨h1, h2, h3, h4, -⟩ := isPart_iff h
  exact ⟨by omega, by show (p.1.natAbs : Int) < 1000000000000; omega, by show p.2 < 1000000000000; omega⟩
theorem okF_small {x y : Int} (hy : 1 ≤ y ∧ y ≤ 9999) (hx : -9999 ≤ x ∧ x ≤ 9999) : okF 1 (x, y) := ⟨by show 0 < y; omega, by show (x.natAbs : Int) < 10000; omega, by show y < 10000; omega⟩

theorem sgn3_same {x y : Int} (h : x = y) : sgn3 x y = 0 := by unfold sgn3; rw [h, if_neg (Int.lt_irrefl _), if_neg (Int.lt_irrefl _)]
/-- A ratio laid into a new row. -/
theorem putRo {H0 H : Heap} (hk : Keep H0 H) (x : Int × Int) : ∃ H1 H2, H.newExact [.int .i64 0, .int .i64 0] 24 = H1 ∧ aStore Tryd.prog H1 24 (.pointer (some ⟨H.size, 0, none⟩)) (.agg ⟨[.int .i64 x.1, .int .i64 x.2]⟩) = some H2 ∧ Keep H0 H2 ∧ Keep H H2 ∧
    Own H2 H.size 24 [.int .i64 x.1, .int .i64 x.2] := by
  obtain ⟨H1, e1, k1, z1, ow1, -, -, -⟩ := box2 H 0 0 24
  obtain ⟨H2, p2, k2, z2, ow2, -⟩ := stH infR.1 k1 (Nat.le_refl _) ow1 (v := .agg ⟨[.int .i64 x.1, .int .i64 x.2]⟩) (new := [.int .i64 x.1, .int .i64 x.2]) rfl infR.2 rfl rfl
  exact ⟨H1, H2, e1, p2, hk.trans k2, k2, ow2⟩
theorem putRo2 {H0 H : Heap} (hk : Keep H0 H) (x y : Int × Int) : ∃ H1 H2 H3 H4, H.newExact [.int .i64 0, .int .i64 0] 24 = H1 ∧ H1.newExact [.int .i64 0, .int .i64 0] 24 = H2 ∧ aStore Tryd.prog H2 24 (.pointer (some ⟨H.size, 0, none⟩)) (.agg ⟨[.int .i64 x.1, .int .i64 x.2]⟩) = some H3 ∧
    aStore Tryd.prog H3 24 (.pointer (some ⟨H1.size, 0, none⟩)) (.agg ⟨[.int .i64 y.1, .int .i64 y.2]⟩) = some H4 ∧ Keep H0 H4 ∧ Keep H H4 ∧ Own H4 H.size 24 [.int .i64 x.1, .int .i64 x.2] ∧ Own H4 H1.size 24 [.int .i64 y.1, .int .i64 y.2] := by
  obtain ⟨H1, e1, k1, z1, ow1, -, -, -⟩ := box2 H 0 0 24
  obtain ⟨H2, e2, k2, z2, ow2, -, -, -⟩ := box2 H1 0 0 24
  obtain ⟨H3, p3, k3, z3, ow3, o3⟩ := stH infR.1 (k1.trans k2) (Nat.le_refl _) (ow1.keep k2) (v := .agg ⟨[.int .i64 x.1, .int .i64 x.2]⟩) (new := [.int .i64 x.1, .int .i64 x.2]) rfl infR.2 rfl rfl
  obtain ⟨H4, p4, k4, z4, ow4, o4⟩ := stH infR.1 k3 k1.size (o3 _ _ _ (by omega) ow2) (v := .agg ⟨[.int .i64 y.1, .int .i64 y.2]⟩) (new := [.int .i64 y.1, .int .i64 y.2]) rfl infR.2 rfl rfl
  exact ⟨H1, H2, H3, H4, e1, e2, p3, p4, hk.trans k4, k4, o4 _ _ _ (by omega) ow3, ow4⟩
/-- A fraction laid into a new row, in a region that draws. -/
theorem putQD {H : Heap} (hL : H.low ≤ H.size) {v : Value} {n d : Int} (hq : QV H v n d) : ∃ H1' H1 H2' H2, (H.relow H.size).newExact [.bool false, .slice none 0 0, .bool false, .slice none 0 0] 52 = H1' ∧ (∀ (all : List Oper) (n : Nat) (k : Heap → Prop), sxD all n H H1' k = k H1) ∧
    aStore Tryd.prog (H1.relow H1.size) 52 (.pointer (some ⟨H.size, 0, none⟩)) v = some H2' ∧ H2'.relow (Nat.min H1.low H2'.low) = H2 ∧ Keep H H2 ∧ H2.low ≤ H2.size ∧ Own H2 H.size 52 v.cells.toList ∧ QV H2 v n d := by
  obtain ⟨Ha, Hb, e1, d1, k1, l1, ow1, z1⟩ := allocQD hL
  obtain ⟨Hc, Hd, p2, y2, k2, z2, l2, ow2, qq2, o2⟩ := storeQD k1 (Nat.le_refl _) l1 ow1 QShape.empty (hq.keep k1)
  exact ⟨Ha, Hb, Hc, Hd, e1, d1, p2, y2, k2, l2, ow2, qq2 _ _ _ (hq.keep k1)⟩
/-- Two fractions laid into new rows, in a region that draws. -/
theorem putQD2 {H : Heap} (hL : H.low ≤ H.size) {u v : Value} {n d n2 d2 : Int} (hq : QV H u n d) (hr : QV H v n2 d2) : ∃ H1' H1 H2' H2 H3' H3 H4' H4, (H.relow H.size).newExact [.bool false, .slice none 0 0, .bool false, .slice none 0 0] 52 = H1' ∧ (∀ (all : List Oper) (n : Nat) (k : Heap → Prop), sxD all n H H1' k = k H1) ∧ (H1.relow H1.size).newExact [.bool false, .slice none 0 0, .bool false, .slice none 0 0] 52 = H2' ∧ (∀ (all : List Oper) (n : Nat) (k : Heap → Prop), sxD all n H1 H2' k = k H2) ∧
    aStore Tryd.prog (H2.relow H2.size) 52 (.pointer (some ⟨H.size, 0, none⟩)) u = some H3' ∧ H3'.relow (Nat.min H2.low H3'.low) = H3 ∧
    aStore Tryd.prog (H3.relow H3.size) 52 (.pointer (some ⟨H1.size, 0, none⟩)) v = some H4' ∧ H4'.relow (Nat.min H3.low H4'.low) = H4 ∧ Keep H H4 ∧ H4.low ≤ H4.size ∧ Own H4 H.size 52 u.cells.toList ∧ QV H4 u n d ∧ Own H4 H1.size 52 v.cells.toList ∧ QV H4 v n2 d2 := by
  obtain ⟨Ha, Hb, e1, d1, k1, l1, ow1, z1⟩ := allocQD hL
  obtain ⟨Hc, Hd, e2, d2, k2, l2, ow2, z2⟩ := allocQD l1
  have k12 := k1.trans k2
  obtain ⟨He, Hf, p3, y3, k3, z3, l3, ow3, qq3, o3⟩ := storeQD k12 (Nat.le_refl _) l2 (ow1.keep k2) QShape.empty (hq.keep k12)
  obtain ⟨Hg, Hh, p4, y4, k4, z4, l4, ow4, qq4, o4⟩ := storeQD k3 k1.size l3 (o3 _ _ _ (by omega) ow2) QShape.empty (qq3 _ _ _ (hr.keep k12))
  exact ⟨Ha, Hb, Hc, Hd, He, Hf, Hg, Hh, e1, d1, e2, d2, p3, y3, p4, y4, k4, l4, o4 _ _ _ (by omega) ow3, qq4 _ _ _ (qq3 _ _ _ (hq.keep k12)), ow4, qq4 _ _ _ (qq3 _ _ _ (hr.keep k12))⟩
/-- Three fractions laid into new rows, in a region that draws. -/
theorem putQD3 {H : Heap} (hL : H.low ≤ H.size) {u v w : Value} {n d n2 d2 n3 d3 : Int} (hq : QV H u n d) (hr : QV H v n2 d2) (hs : QV H w n3 d3) : ∃ H1' H1 H2' H2 H3' H3 H4' H4 H5' H5 H6' H6, (H.relow H.size).newExact [.bool false, .slice none 0 0, .bool false, .slice none 0 0] 52 = H1' ∧ (∀ (all : List Oper) (n : Nat) (k : Heap → Prop), sxD all n H H1' k = k H1) ∧ (H1.relow H1.size).newExact [.bool false, .slice none 0 0, .bool false, .slice none 0 0] 52 = H2' ∧ (∀ (all : List Oper) (n : Nat) (k : Heap → Prop), sxD all n H1 H2' k = k H2) ∧ (H2.relow H2.size).newExact [.bool false, .slice none 0 0, .bool false, .slice none 0 0] 52 = H3' ∧ (∀ (all : List Oper) (n : Nat) (k : Heap → Prop), sxD all n H2 H3' k = k H3) ∧
    aStore Tryd.prog (H3.relow H3.size) 52 (.pointer (some ⟨H.size, 0, none⟩)) u = some H4' ∧ H4'.relow (Nat.min H3.low H4'.low) = H4 ∧
    aStore Tryd.prog (H4.relow H4.size) 52 (.pointer (some ⟨H1.size, 0, none⟩)) v = some H5' ∧ H5'.relow (Nat.min H4.low H5'.low) = H5 ∧
    aStore Tryd.prog (H5.relow H5.size) 52 (.pointer (some ⟨H2.size, 0, none⟩)) w = some H6' ∧ H6'.relow (Nat.min H5.low H6'.low) = H6 ∧ Keep H H6 ∧ H6.low ≤ H6.size ∧ Own H6 H.size 52 u.cells.toList ∧ QV H6 u n d ∧ Own H6 H1.size 52 v.cells.toList ∧ QV H6 v n2 d2 ∧ Own H6 H2.size 52 w.cells.toList ∧ QV H6 w n3 d3 := by
  obtain ⟨Ha, Hb, e1, d1, k1, l1, ow1, z1⟩ := allocQD hL
  obtain ⟨Hc, Hd, e2, d2, k2, l2, ow2, z2⟩ := allocQD l1
  obtain ⟨Hi, Hj, e3, d3, k3, l3, ow3, z3⟩ := allocQD l2
  have k13 := (k1.trans k2).trans k3
  obtain ⟨He, Hf, p4, y4, k4, z4, l4, ow4, qq4, o4⟩ := storeQD k13 (Nat.le_refl _) l3 (ow1.keep (k2.trans k3)) QShape.empty (hq.keep k13)
  obtain ⟨Hg, Hh, p5, y5, k5, z5, l5, ow5, qq5, o5⟩ := storeQD k4 k1.size l4 (o4 _ _ _ (by omega) (ow2.keep k3)) QShape.empty (qq4 _ _ _ (hr.keep k13))
  obtain ⟨Hm, Hn, p6, y6, k6, z6, l6, ow6, qq6, o6⟩ := storeQD k5 (k1.trans k2).size l5 (o5 _ _ _ (by omega) (o4 _ _ _ (by omega) ow3)) QShape.empty (qq5 _ _ _ (qq4 _ _ _ (hs.keep k13)))
  exact ⟨Ha, Hb, Hc, Hd, Hi, Hj, He, Hf, Hg, Hh, Hm, Hn, e1, d1, e2, d2, e3, d3, p4, y4, p5, y5, p6, y6, k6, l6, o6 _ _ _ (by omega) (o5 _ _ _ (by omega) ow4), qq6 _ _ _ (qq5 _ _ _ (qq4 _ _ _ (hq.keep k13))), o6 _ _ _ (by omega) ow5, qq6 _ _ _ (qq5 _ _ _ (qq4 _ _ _ (hr.keep k13))), ow6, qq6 _ _ _ (qq5 _ _ _ (qq4 _ _ _ (hs.keep k13)))⟩

variable {S : AM.Sys} (hS : Only S 10)
include hS

theorem MulP {a b : Nat} (v1 v2 : Value) (p q : Int × Int) (H : Heap) (hg : Grp H) (hL : H.low ≤ H.size) (h1 : PV H v1 p) (h2 : PV H v2 q) (k1 : okF a p) (k2 : okF b q) (ha : a ≤ 20) (hb : b ≤ 20) : QOut S 28 [v1, v2] H (qmul p q).1 (qmul p q).2 :=
  Mul_all hS v1 v2 p.1 p.2 q.1 q.2 H hg hL h1 h2 k1.1 k2.1 (k1.mono ha).2.1 (k1.mono ha).2.2 (k2.mono hb).2.1 (k2.mono hb).2.2
theorem AddP {a b : Nat} (v1 v2 : Value) (p q : Int × Int) (H : Heap) (hg : Grp H) (hL : H.low ≤ H.size) (h1 : PV H v1 p) (h2 : PV H v2 q) (k1 : okF a p) (k2 : okF b q) (ha : a ≤ 20) (hb : b ≤ 20) : QOut S 26 [v1, v2] H (qadd p q).1 (qadd p q).2 :=
  Add_all hS v1 v2 p.1 p.2 q.1 q.2 H hg hL h1 h2 k1.1 k2.1 (k1.mono ha).2.1 (k1.mono ha).2.2 (k2.mono hb).2.1 (k2.mono hb).2.2
theorem SubP {a b : Nat} (v1 v2 : Value) (p q : Int × Int) (H : Heap) (hg : Grp H) (hL : H.low ≤ H.size) (h1 : PV H v1 p) (h2 : PV H v2 q) (k1 : okF a p) (k2 : okF b q) (ha : a ≤ 20) (hb : b ≤ 20) : QOut S 27 [v1, v2] H (qsub p q).1 (qsub p q).2 :=
  Sub_all hS v1 v2 p.1 p.2 q.1 q.2 H hg hL h1 h2 k1.1 k2.1 (k1.mono ha).2.1 (k1.mono ha).2.2 (k2.mono hb).2.1 (k2.mono hb).2.2
theorem CmpP (v1 v2 : Value) (p q : Int × Int) (H : Heap) (hg : Grp H) (hL : H.low ≤ H.size) (h1 : PV H v1 p) (h2 : PV H v2 q) (k1 : 0 < p.2) (k2 : 0 < q.2) : ∃ H', Keep H H' ∧ Runs Tryd.prog S (.fn 23) [v1, v2] H (.int .i64 (sgn3 (p.1 * q.2) (q.1 * p.2))) H' :=
  Cmp_all hS v1 v2 p.1 p.2 q.1 q.2 H hg hL h1 h2 k1 k2
theorem FromP (p : Int × Int) (H : Heap) (hg : Grp H) (hL : H.low ≤ H.size) (k1 : okF 4 p) : QOut S 24 [.agg ⟨[.int .i64 p.1, .int .i64 p.2]⟩] H p.1 p.2 := by
  obtain ⟨h1, h2, h3⟩ := k1
  have e : (10000 : Int) ^ 4 = 10000000000000000 := rfl
  rw [e] at h2 h3
  exact FromRatio_all hS p.1 p.2 H hg hL (by omega) h1 (by omega)
theorem FracP (x y : Int) (H : Heap) (hg : Grp H) (hL : H.low ≤ H.size) (k1 : okF 3 (x, y)) : QOut S 25 [.int .i64 x, .int .i64 y] H (x, y).1 (x, y).2 := by
  obtain ⟨h1, h2, h3⟩ := k1
  have e : (10000 : Int) ^ 3 = 1000000000000 := rfl
  rw [e] at h2 h3
  have h1 : 0 < y := h1
  have h2 : (x.natAbs : Int) < 1000000000000 := h2
  have h3 : y < 1000000000000 := h3
  exact Frac_any hS x y H hg hL (by omega) h1 (by omega)
end Go.Proofs.YtnbhjbelgmkpeaaDoor
