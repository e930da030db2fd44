/- One pair of shares, by the reference. -/
import Derived.Test.YtmcomjgebcemdaaGreatBX
set_option linter.unusedVariables false
set_option linter.unusedSimpArgs false
set_option linter.unusedSectionVars false

namespace Go.Proofs.YtmcomjgebcemdaaGreat
open Go Go.AM
set_option maxRecDepth 10000
set_option linter.unusedSimpArgs false

theorem sgn3_zero {x y : Int} : sgn3 x y = 0 ↔ x = y := by
  unfold sgn3
  split
  · omega
  · split <;> omega
/-- A call that gives two fractions, in a region that draws. -/
theorem drawnQ2 {S : AM.Sys} {f : FuncId} {args : List Value} {H : Heap} {n1 d1 n2 d2 : Int} (hL : H.low ≤ H.size) (h : ∃ H' va vb, Keep (H.relow H.size) H' ∧ Grp H' ∧ QV H' va n1 d1 ∧ QV H' vb n2 d2 ∧ Runs Tryz.prog S (.fn f) args (H.relow H.size) (.tuple #[va, vb]) H') :
    ∃ va vb H4 H5, Keep H H5 ∧ H5.low ≤ H5.size ∧ (∀ (K : Value → Heap → Prop) (b : Blk K), sxCallB Tryz.prog S (.fn f) args (H.relow H.size) K b = K (.tuple #[va, vb]) H4) ∧ (∀ (all : List Oper) (n : Nat) (k : Heap → Prop), sxD all n H H4 k = k H5) ∧ QV H5 va n1 d1 ∧ QV H5 vb n2 d2 := by
  obtain ⟨H6, va, vb, hK6, hg6, ha, hb, hR⟩ := h
  exact ⟨va, vb, H6, H6.relow (Nat.min H.low H6.low), Keep.draw hK6, (Keep.draw hK6).low hL, hR.bx, fun all n k => sxD_keep hK6 k, ha.addr, hb.addr⟩

variable {S : AM.Sys} (hS : Only S 8)
include hS

theorem pair_step (x y A B d : Int) (H : Heap) (hg : Grp H) (hL : H.low ≤ H.size) (hd : 0 < d ∧ d ≤ 1000000) (hx : 0 ≤ x ∧ x ≤ 100000000000) (hy : 0 ≤ y ∧ y ≤ 100000000000) (hA : 0 ≤ A ∧ A ≤ 100000) (hB : 0 ≤ B ∧ B ≤ 100000) (hAd : 0 ≤ A * d ∧ A * d ≤ 100000000000) (hBd : 0 ≤ B * d ∧ B * d ≤ 100000000000) :
    ∃ p Ha' Ha q Hb' Hb Hc' Hc Hd' Hd He' He Hf' Hf t58 Hg' Hg t63 Hh' Hh t68 Hi' Hi va vb Hj' Hj Hk' Hk Hl' Hl Hm' Hm Hn' Hn s1 Ho s2 Hp,
      ((∀ (K : Value → Heap → Prop) (b : Blk K), sxCallB Tryz.prog S (.fn 18) [.int .i64 x, .int .i64 d] (H.relow H.size) K b = K p Ha') ∧ (∀ (all : List Oper) (n : Nat) (k : Heap → Prop), sxD all n H Ha' k = k Ha) ∧ Ha.low ≤ Ha.size ∧ Keep H Ha) ∧
      ((∀ (K : Value → Heap → Prop) (b : Blk K), sxCallB Tryz.prog S (.fn 18) [.int .i64 y, .int .i64 d] (Ha.relow Ha.size) K b = K q Hb') ∧ (∀ (all : List Oper) (n : Nat) (k : Heap → Prop), sxD all n Ha Hb' k = k Hb) ∧ Hb.low ≤ Hb.size) ∧
      ((Hb.relow Hb.size).newExact [.bool false, .slice none 0 0, .bool false, .slice none 0 0] 42 = Hc' ∧ (∀ (all : List Oper) (n : Nat) (k : Heap → Prop), sxD all n Hb Hc' k = k Hc) ∧ Hc.low ≤ Hc.size) ∧
      ((Hc.relow Hc.size).newExact [.bool false, .slice none 0 0, .bool false, .slice none 0 0] 42 = Hd' ∧ (∀ (all : List Oper) (n : Nat) (k : Heap → Prop), sxD all n Hc Hd' k = k Hd) ∧ Hd.low ≤ Hd.size) ∧
      (aStore Tryz.prog (Hd.relow Hd.size) 42 (.pointer (some ⟨Hb.size, 0, none⟩)) p = some He' ∧ He'.relow (Nat.min Hd.low He'.low) = He ∧ He.low ≤ He.size ∧ He'.size = He.size ∧ He'.relow He.size = He.relow He.size) ∧
      (aStore Tryz.prog (He.relow He.size) 42 (.pointer (some ⟨Hc.size, 0, none⟩)) q = some Hf' ∧ Hf'.relow (Nat.min He.low Hf'.low) = Hf ∧ Hf.low ≤ Hf.size ∧ Hf'.size = Hf.size ∧ Hf'.relow Hf.size = Hf.relow Hf.size) ∧
      (aLoad Tryz.prog Hf 42 (.pointer (some ⟨Hb.size, 0, none⟩)) = some p ∧ aLoad Tryz.prog Hf 42 (.pointer (some ⟨Hc.size, 0, none⟩)) = some q) ∧
      ((∀ (K : Value → Heap → Prop) (b : Blk K), sxCallB Tryz.prog S (.fn 24) [p, q] (Hf.relow Hf.size) K b = K t58 Hg') ∧ (∀ (all : List Oper) (n : Nat) (k : Heap → Prop), sxD all n Hf Hg' k = k Hg) ∧ Hg.low ≤ Hg.size ∧ Keep H Hg) ∧
      ((∀ (K : Value → Heap → Prop) (b : Blk K), sxCallB Tryz.prog S (.fn 18) [.int .i64 A, .int .i64 1] (Hg.relow Hg.size) K b = K t63 Hh') ∧ (∀ (all : List Oper) (n : Nat) (k : Heap → Prop), sxD all n Hg Hh' k = k Hh) ∧ Hh.low ≤ Hh.size ∧ Keep H Hh) ∧
      ((∀ (K : Value → Heap → Prop) (b : Blk K), sxCallB Tryz.prog S (.fn 18) [.int .i64 B, .int .i64 1] (Hh.relow Hh.size) K b = K t68 Hi') ∧ (∀ (all : List Oper) (n : Nat) (k : Heap → Prop), sxD all n Hh Hi' k = k Hi) ∧ Hi.low ≤ Hi.size) ∧
      ((∀ (K : Value → Heap → Prop) (b : Blk K), sxCallB Tryz.prog S (.fn 17) [t58, t63, t68] (Hi.relow Hi.size) K b = K (.tuple #[va, vb]) Hj') ∧ (∀ (all : List Oper) (n : Nat) (k : Heap → Prop), sxD all n Hi Hj' k = k Hj) ∧ Hj.low ≤ Hj.size) ∧
      ((Hj.relow Hj.size).newExact [.bool false, .slice none 0 0, .bool false, .slice none 0 0] 42 = Hk' ∧ (∀ (all : List Oper) (n : Nat) (k : Heap → Prop), sxD all n Hj Hk' k = k Hk) ∧ Hk.low ≤ Hk.size) ∧
      ((Hk.relow Hk.size).newExact [.bool false, .slice none 0 0, .bool false, .slice none 0 0] 42 = Hl' ∧ (∀ (all : List Oper) (n : Nat) (k : Heap → Prop), sxD all n Hk Hl' k = k Hl) ∧ Hl.low ≤ Hl.size) ∧
      (aStore Tryz.prog (Hl.relow Hl.size) 42 (.pointer (some ⟨Hj.size, 0, none⟩)) va = some Hm' ∧ Hm'.relow (Nat.min Hl.low Hm'.low) = Hm ∧ Hm.low ≤ Hm.size) ∧
      (aStore Tryz.prog (Hm.relow Hm.size) 42 (.pointer (some ⟨Hk.size, 0, none⟩)) vb = some Hn' ∧ Hn'.relow (Nat.min Hm.low Hn'.low) = Hn ∧ Hn.low ≤ Hn.size) ∧
      (aLoad Tryz.prog Hn 42 (.pointer (some ⟨Hj.size, 0, none⟩)) = some va ∧ aLoad Tryz.prog Hn 42 (.pointer (some ⟨Hb.size, 0, none⟩)) = some p) ∧
      ((∀ (K : Value → Heap → Prop) (b : Blk K), sxCallB Tryz.prog S (.fn 25) [va, p] Hn K b = K (.int .i64 s1) Ho) ∧ Ho.low ≤ Ho.size) ∧
      (aLoad Tryz.prog Ho 42 (.pointer (some ⟨Hk.size, 0, none⟩)) = some vb ∧ aLoad Tryz.prog Ho 42 (.pointer (some ⟨Hc.size, 0, none⟩)) = some q) ∧
      ((∀ (K : Value → Heap → Prop) (b : Blk K), sxCallB Tryz.prog S (.fn 25) [vb, q] Ho K b = K (.int .i64 s2) Hp) ∧ Hp.low ≤ Hp.size) ∧
      Keep H Ho ∧ Keep H Hp ∧ Grp Ho ∧ Grp Hp ∧ (s1 = 0 ↔ twice (x + y) (A * d) (B * d) = 2 * x) ∧ (s2 = 0 ↔ twice (x + y) (A * d) (B * d) = 2 * x) := by
  have b20 := big20
  have kr := Keep.relowS H
  obtain ⟨p, Ha', Ha, ka, la, fa, da, qa⟩ := drawnQ hL (Frac_all hS x d (H.relow H.size) (kr.grp hg) (Nat.le_refl _) hx.1 hd.1 (by omega) (by omega))
  have ga := ka.grp hg
  obtain ⟨q, Hb', Hb, kb, lb, fb, db, qb⟩ := drawnQ la (Frac_all hS y d (Ha.relow Ha.size) ((Keep.relowS Ha).grp ga) (Nat.le_refl _) hy.1 hd.1 (by omega) (by omega))
  obtain ⟨Hc', Hc, ec, dc, kc, lc, oc, zc⟩ := allocQD lb
  obtain ⟨Hd', Hd, ed, dd, kd, ld, od, zd⟩ := allocQD lc
  have kab := ka.trans kb
  have kad := (kab.trans kc).trans kd
  have hne : Hc.size ≠ Hb.size := by omega
  obtain ⟨He', He, ee, ee2, ke, ze, le, oe, pe, re⟩ := storeQD (H0 := H) kad kab.size ld (oc.keep kd) QShape.empty ((qa.keep kb).keep (kc.trans kd))
  obtain ⟨Hf', Hf, ef, ef2, kf, zf, lf, of', pf, rf⟩ := storeQD (H0 := H) ke (kab.trans kc).size le (re _ _ _ hne od) QShape.empty (pe _ _ _ (qb.keep (kc.trans kd)))
  have gf := kf.grp hg
  have op := rf _ _ _ (Ne.symm hne) oe
  have qp := pf _ _ _ (pe _ _ _ ((qa.keep kb).keep (kc.trans kd)))
  have qq := pf _ _ _ (pe _ _ _ (qb.keep (kc.trans kd)))
  have krf := Keep.relowS Hf
  obtain ⟨t58, Hg', Hg, kg, lg, fg, dg, qg⟩ := drawnQ lf (Add_all hS p q x d y d (Hf.relow Hf.size) (krf.grp gf) (Nat.le_refl _) (qp.keep krf) (qq.keep krf) hd.1 hd.1 (by omega) (by omega) (by omega) (by omega))
  have qg' : QV Hg t58 (x + y) d := qg.as (Int.mul_pos hd.1 hd.1) (by rw [← Int.add_mul, Int.mul_assoc])
  have gg := kg.grp gf
  obtain ⟨t63, Hh', Hh, kh, lh, fh, dh, qh⟩ := drawnQ lg (Frac_all hS A 1 (Hg.relow Hg.size) ((Keep.relowS Hg).grp gg) (Nat.le_refl _) hA.1 (by omega) (by omega) (by omega))
  have qh' : QV Hh t63 (A * d) d := qh.as (by omega) (by rw [Int.mul_one])
  have gh := kh.grp gg
  obtain ⟨t68, Hi', Hi, ki, li, fi, di, qi⟩ := drawnQ lh (Frac_all hS B 1 (Hh.relow Hh.size) ((Keep.relowS Hh).grp gh) (Nat.le_refl _) hB.1 (by omega) (by omega) (by omega))
  have qi' : QV Hi t68 (B * d) d := qi.as (by omega) (by rw [Int.mul_one])
  have gi := ki.grp gh
  have kri := Keep.relowS Hi
  obtain ⟨va, vb, Hj', Hj, kj, lj, fj, dj, qva, qvb⟩ := drawnQ2 li (garment_runs hS t58 t63 t68 (x + y) (A * d) (B * d) d (Hi.relow Hi.size) (kri.grp gi) (Nat.le_refl _) ((qg'.keep (kh.trans ki)).keep kri) ((qh'.keep ki).keep kri) (qi'.keep kri) hd.1 (by omega) (by omega) (by omega) (by omega))
  have hFa : (x + y) + max 0 ((x + y) - B * d) - max 0 ((x + y) - A * d) = twice (x + y) (A * d) (B * d) := rfl
  have hFb : (x + y) + max 0 ((x + y) - A * d) - max 0 ((x + y) - B * d) = 2 * (x + y) - twice (x + y) (A * d) (B * d) := by unfold twice; omega
  rw [hFa] at qva
  rw [hFb] at qvb
  obtain ⟨Hk', Hk, ek, dk, kk, lk, ok, zk⟩ := allocQD lj
  obtain ⟨Hl', Hl, el, dl, kl, ll, ol, zl⟩ := allocQD lk
  have kfj := ((kg.trans kh).trans ki).trans kj
  have kfl := (kfj.trans kk).trans kl
  have hne2 : Hk.size ≠ Hj.size := by omega
  obtain ⟨Hm', Hm, em, em2, km, zm, lm, om, pm, rm⟩ := storeQD (H0 := Hf) kfl kfj.size ll (ok.keep kl) QShape.empty (qva.keep (kk.trans kl))
  obtain ⟨Hn', Hn, en, en2, kn, zn, ln, on', pn, rn⟩ := storeQD (H0 := Hf) km (kfj.trans kk).size lm (rm _ _ _ hne2 ol) QShape.empty (pm _ _ _ (qvb.keep (kk.trans kl)))
  have ona := rn _ _ _ (Ne.symm hne2) om
  have qva' := pn _ _ _ (pm _ _ _ (qva.keep (kk.trans kl)))
  have qvb' := pn _ _ _ (pm _ _ _ (qvb.keep (kk.trans kl)))
  have k0n := kf.trans kn
  have gn := k0n.grp hg
  obtain ⟨Ho, ko, Ro⟩ := Cmp_all hS va p (twice (x + y) (A * d) (B * d)) (2 * d) x d Hn gn ln qva' (qp.keep kn) (by omega) hd.1
  have lo := ko.low ln
  have go := ko.grp gn
  obtain ⟨Hp, kp, Rp⟩ := Cmp_all hS vb q (2 * (x + y) - twice (x + y) (A * d) (B * d)) (2 * d) y d Ho go lo (qvb'.keep ko) (qq.keep (kn.trans ko)) (by omega) hd.1
  have k0o := k0n.trans ko
  have k0p := k0o.trans kp
  refine ⟨p, Ha', Ha, q, Hb', Hb, Hc', Hc, Hd', Hd, He', He, Hf', Hf, t58, Hg', Hg, t63, Hh', Hh, t68, Hi', Hi, va, vb, Hj', Hj, Hk', Hk, Hl', Hl, Hm', Hm, Hn', Hn, _, Ho, _, Hp, ⟨fa, da, la, ka⟩, ⟨fb, db, lb⟩, ⟨ec, dc, lc⟩, ⟨ed, dd, ld⟩,
    ⟨ee, ee2, le, by rw [← ee2]; rfl, by rw [← ee2]; rfl⟩, ⟨ef, ef2, lf, by rw [← ef2]; rfl, by rw [← ef2]; rfl⟩, ⟨own_ldQ op qp, own_ldQ of' qq⟩, ⟨fg, dg, lg, kf.trans kg⟩, ⟨fh, dh, lh, (kf.trans kg).trans kh⟩, ⟨fi, di, li⟩, ⟨fj, dj, lj⟩, ⟨ek, dk, lk⟩, ⟨el, dl, ll⟩, ⟨em, em2, lm⟩, ⟨en, en2, ln⟩,
    ⟨own_ldQ ona qva', own_ldQ (op.keep kn) (qp.keep kn)⟩, ⟨Ro.bx, lo⟩, ⟨own_ldQ (on'.keep ko) (qvb'.keep ko), own_ldQ (of'.keep (kn.trans ko)) (qq.keep (kn.trans ko))⟩, ⟨Rp.bx, kp.low lo⟩, k0o, k0p, go, kp.grp go, ?_, ?_⟩
  · rw [show x * (2 * d) = (2 * x) * d by ac_rfl, sgn3_mul hd.1, sgn3_zero]
  · rw [show y * (2 * d) = (2 * y) * d by ac_rfl, sgn3_mul hd.1, sgn3_zero]
    omega
end Go.Proofs.YtmcomjgebcemdaaGreat
