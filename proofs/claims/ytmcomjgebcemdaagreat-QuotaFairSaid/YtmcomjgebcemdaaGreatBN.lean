/- The contested garment, by the reference: its last steps. -/
import Derived.Test.YtmcomjgebcemdaaGreatBM
set_option linter.unusedVariables false
set_option linter.unusedSimpArgs false
set_option linter.unusedSectionVars false

namespace Go.Proofs.YtmcomjgebcemdaaGreat
open Go Go.AM
set_option maxRecDepth 10000
set_option linter.unusedSimpArgs false

theorem big20 : (10000 : Int) ^ 20 = 100000000000000000000000000000000000000000000000000000000000000000000000000000000 := by decide

variable {S : AM.Sys} (hS : Only S 8)
include hS

theorem garment_tail (v1 vx vy : Value) (E X Y D : Int) (H0 H : Heap) (r1 r6 r7 r9 r10 : Nat) (hk : Keep H0 H) (hg0 : Grp H0) (hL : H.low ≤ H.size)
    (o1 : Own H r1 42 v1.cells.toList) (o9 : Own H r9 42 vx.cells.toList) (o10 : Own H r10 42 vy.cells.toList) (o6 : Own H r6 42 [.bool false, .slice none 0 0, .bool false, .slice none 0 0]) (o7 : Own H r7 42 [.bool false, .slice none 0 0, .bool false, .slice none 0 0])
    (h6 : H0.size ≤ r6) (h7 : H0.size ≤ r7) (h67 : r7 ≠ r6) 
    (q1 : QV H v1 E D) (qx : QV H vx X D) (qy : QV H vy Y D) (hD : 0 < D) (bD : D ≤ 1000000000000000) (bE : 0 ≤ E ∧ E ≤ 1000000000000000) (bX : 0 ≤ X ∧ X ≤ 1000000000000000) (bY : 0 ≤ Y ∧ Y ≤ 1000000000000000) :
    ∃ t32 Ha' Ha t33 Hb' Hb t34 Hc' Hc t35 Hd' Hd He' He Hf' Hf t38 Hg' Hg t41 Hh' Hh Hi' Hi Hj' Hj,
      (aLoad Tryz.prog H 42 (.pointer (some ⟨r1, 0, none⟩)) = some v1 ∧ aLoad Tryz.prog H 42 (.pointer (some ⟨r9, 0, none⟩)) = some vx ∧ aLoad Tryz.prog H 42 (.pointer (some ⟨r10, 0, none⟩)) = some vy) ∧
      ((∀ (K : Value → Heap → Prop) (b : Blk K), sxCallB Tryz.prog S (.fn 24) [vx, vy] (H.relow H.size) K b = K t32 Ha') ∧ (∀ (all : List Oper) (n : Nat) (k : Heap → Prop), sxD all n H Ha' k = k Ha) ∧ Ha.low ≤ Ha.size) ∧
      ((∀ (K : Value → Heap → Prop) (b : Blk K), sxCallB Tryz.prog S (.fn 31) [v1, t32] (Ha.relow Ha.size) K b = K t33 Hb') ∧ (∀ (all : List Oper) (n : Nat) (k : Heap → Prop), sxD all n Ha Hb' k = k Hb) ∧ Hb.low ≤ Hb.size) ∧
      ((∀ (K : Value → Heap → Prop) (b : Blk K), sxCallB Tryz.prog S (.fn 18) [.int .i64 1, .int .i64 2] (Hb.relow Hb.size) K b = K t34 Hc') ∧ (∀ (all : List Oper) (n : Nat) (k : Heap → Prop), sxD all n Hb Hc' k = k Hc) ∧ Hc.low ≤ Hc.size) ∧
      ((∀ (K : Value → Heap → Prop) (b : Blk K), sxCallB Tryz.prog S (.fn 32) [t33, t34] (Hc.relow Hc.size) K b = K t35 Hd') ∧ (∀ (all : List Oper) (n : Nat) (k : Heap → Prop), sxD all n Hc Hd' k = k Hd) ∧ Hd.low ≤ Hd.size) ∧
      ((Hd.relow Hd.size).newExact [.bool false, .slice none 0 0, .bool false, .slice none 0 0] 42 = He' ∧ (∀ (all : List Oper) (n : Nat) (k : Heap → Prop), sxD all n Hd He' k = k He) ∧ He.low ≤ He.size) ∧
      (aStore Tryz.prog (He.relow He.size) 42 (.pointer (some ⟨Hd.size, 0, none⟩)) t35 = some Hf' ∧ Hf'.relow (Nat.min He.low Hf'.low) = Hf ∧ Hf.low ≤ Hf.size ∧ Hf'.size = Hf.size ∧ Hf'.relow Hf.size = Hf.relow Hf.size) ∧
      (aLoad Tryz.prog Hf 42 (.pointer (some ⟨r9, 0, none⟩)) = some vx ∧ aLoad Tryz.prog Hf 42 (.pointer (some ⟨Hd.size, 0, none⟩)) = some t35) ∧
      ((∀ (K : Value → Heap → Prop) (b : Blk K), sxCallB Tryz.prog S (.fn 24) [vx, t35] (Hf.relow Hf.size) K b = K t38 Hg') ∧ (∀ (all : List Oper) (n : Nat) (k : Heap → Prop), sxD all n Hf Hg' k = k Hg) ∧ Hg.low ≤ Hg.size) ∧
      (aLoad Tryz.prog Hg 42 (.pointer (some ⟨r10, 0, none⟩)) = some vy ∧ aLoad Tryz.prog Hg 42 (.pointer (some ⟨Hd.size, 0, none⟩)) = some t35) ∧
      ((∀ (K : Value → Heap → Prop) (b : Blk K), sxCallB Tryz.prog S (.fn 24) [vy, t35] (Hg.relow Hg.size) K b = K t41 Hh') ∧ (∀ (all : List Oper) (n : Nat) (k : Heap → Prop), sxD all n Hg Hh' k = k Hh) ∧ Hh.low ≤ Hh.size) ∧
      (aStore Tryz.prog (Hh.relow Hh.size) 42 (.pointer (some ⟨r6, 0, none⟩)) t38 = some Hi' ∧ Hi'.relow (Nat.min Hh.low Hi'.low) = Hi ∧ Hi.low ≤ Hi.size) ∧
      (aStore Tryz.prog (Hi.relow Hi.size) 42 (.pointer (some ⟨r7, 0, none⟩)) t41 = some Hj' ∧ Hj'.relow (Nat.min Hi.low Hj'.low) = Hj ∧ Hj.low ≤ Hj.size) ∧
      (aLoad Tryz.prog Hj 42 (.pointer (some ⟨r6, 0, none⟩)) = some t38 ∧ aLoad Tryz.prog Hj 42 (.pointer (some ⟨r7, 0, none⟩)) = some t41) ∧
      Keep H0 Hj ∧ Grp Hj ∧ QV Hj t38 (E + X - Y) (2 * D) ∧ QV Hj t41 (E + Y - X) (2 * D) := by
  have b20 := big20
  have hg := hk.grp hg0
  have l1 := own_ldQ o1 q1
  have l9 := own_ldQ o9 qx
  have l10 := own_ldQ o10 qy
  have kr := Keep.relowS H
  obtain ⟨t32, Ha', Ha, ka, la, fa, da, qa⟩ := drawnQ hL (Add_all hS vx vy X D Y D (H.relow H.size) (kr.grp hg) (Nat.le_refl _) (qx.keep kr) (qy.keep kr) hD hD (by omega) (by omega) (by omega) (by omega))
  have qa' : QV Ha t32 (X + Y) D := qa.as (Int.mul_pos hD hD) (by rw [← Int.add_mul, Int.mul_assoc])
  have ga := ka.grp hg
  have kra := Keep.relowS Ha
  obtain ⟨t33, Hb', Hb, kb, lb, fb, db, qb⟩ := drawnQ la (Sub_all hS v1 t32 E D (X + Y) D (Ha.relow Ha.size) (kra.grp ga) (Nat.le_refl _) ((q1.keep ka).keep kra) (qa'.keep kra) hD hD (by omega) (by omega) (by omega) (by omega))
  have qb' : QV Hb t33 (E - (X + Y)) D := qb.as (Int.mul_pos hD hD) (by rw [← Int.sub_mul, Int.mul_assoc])
  have gb := kb.grp ga
  have krb := Keep.relowS Hb
  obtain ⟨t34, Hc', Hc, kc, lc, fc, dc, qc⟩ := drawnQ lb (Frac_all hS 1 2 (Hb.relow Hb.size) (krb.grp gb) (Nat.le_refl _) (by omega) (by omega) (by omega) (by omega))
  have gc := kc.grp gb
  have krc := Keep.relowS Hc
  obtain ⟨t35, Hd', Hd, kd, ld, fd, dd, qd⟩ := drawnQ lc (Mul_all hS t33 t34 (E - (X + Y)) D 1 2 (Hc.relow Hc.size) (krc.grp gc) (Nat.le_refl _) ((qb'.keep kc).keep krc) (qc.keep krc) hD (by omega) (by omega) (by omega) (by omega) (by omega))
  have qd' : QV Hd t35 (E - (X + Y)) (2 * D) := qd.as (by omega) (by rw [Int.mul_one, Int.mul_comm D 2])
  have kHd := ((ka.trans kb).trans kc).trans kd
  obtain ⟨He', He, ee, de, ke, le, oe, ze⟩ := allocQD ld
  have kHe := kHd.trans ke
  obtain ⟨Hf', Hf, ef, ef2, kf, zf, lf, of', pf, rf⟩ := storeQD (H0 := H) kHe kHd.size le oe QShape.empty (qd'.keep ke)
  have gf := kf.grp hg
  have krf := Keep.relowS Hf
  have q35 := pf _ _ _ (qd'.keep ke)
  obtain ⟨t38, Hg', Hg, kg, lg, fg, dg, qg⟩ := drawnQ lf (Add_all hS vx t35 X D (E - (X + Y)) (2 * D) (Hf.relow Hf.size) (krf.grp gf) (Nat.le_refl _) ((qx.keep kf).keep krf) (q35.keep krf) hD (by omega) (by omega) (by omega) (by omega) (by omega))
  have qg' : QV Hg t38 (E + X - Y) (2 * D) := qg.as (Int.mul_pos hD (by omega)) (by
    have h1 : X * (2 * D) + (E - (X + Y)) * D = (E + X - Y) * D := by
      rw [← Int.mul_assoc, ← Int.add_mul]; congr 1; omega
    rw [h1, Int.mul_assoc])
  have gg := kg.grp gf
  have krg := Keep.relowS Hg
  obtain ⟨t41, Hh', Hh, kh, lh, fh, dh, qh⟩ := drawnQ lg (Add_all hS vy t35 Y D (E - (X + Y)) (2 * D) (Hg.relow Hg.size) (krg.grp gg) (Nat.le_refl _) ((qy.keep (kf.trans kg)).keep krg) ((q35.keep kg).keep krg) hD (by omega) (by omega) (by omega) (by omega) (by omega))
  have qh' : QV Hh t41 (E + Y - X) (2 * D) := qh.as (Int.mul_pos hD (by omega)) (by
    have h1 : Y * (2 * D) + (E - (X + Y)) * D = (E + Y - X) * D := by
      rw [← Int.mul_assoc, ← Int.add_mul]; congr 1; omega
    rw [h1, Int.mul_assoc])
  have kHh := (kf.trans kg).trans kh
  obtain ⟨Hi', Hi, ei, ei2, ki, zi, li, oi, pi, ri⟩ := storeQD (hk.trans kHh) h6 lh (o6.keep kHh) QShape.empty (qg'.keep kh)
  obtain ⟨Hj', Hj, ej, ej2, kj, zj, lj, oj, pj, rj⟩ := storeQD ki h7 li (ri r7 _ _ h67 (o7.keep kHh)) QShape.empty (pi _ _ _ qh')
  have q38 := pj _ _ _ (pi _ _ _ (qg'.keep kh))
  have q41 := pj _ _ _ (pi _ _ _ qh')
  exact ⟨t32, Ha', Ha, t33, Hb', Hb, t34, Hc', Hc, t35, Hd', Hd, He', He, Hf', Hf, t38, Hg', Hg, t41, Hh', Hh, Hi', Hi, Hj', Hj, ⟨l1, l9, l10⟩, ⟨fa, da, la⟩, ⟨fb, db, lb⟩, ⟨fc, dc, lc⟩, ⟨fd, dd, ld⟩, ⟨ee, de, le⟩, ⟨ef, ef2, lf, by rw [← ef2]; rfl, by rw [← ef2]; rfl⟩,
    ⟨own_ldQ (o9.keep kf) (qx.keep kf), own_ldQ of' q35⟩, ⟨fg, dg, lg⟩, ⟨own_ldQ (o10.keep (kf.trans kg)) (qy.keep (kf.trans kg)), own_ldQ (of'.keep kg) (q35.keep kg)⟩, ⟨fh, dh, lh⟩, ⟨ei, ei2, li⟩, ⟨ej, ej2, lj⟩, ⟨own_ldQ (rj r6 _ _ (Ne.symm h67) oi) q38, own_ldQ oj q41⟩, kj, kj.grp hg0, q38, q41⟩
end Go.Proofs.YtmcomjgebcemdaaGreat
