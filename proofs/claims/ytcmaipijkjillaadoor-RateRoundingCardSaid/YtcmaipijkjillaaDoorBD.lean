/- Fractions, continued: of two ints. -/
import Derived.Test.YtcmaipijkjillaaDoorBC
set_option linter.unusedVariables false
set_option linter.unusedSimpArgs false
set_option linter.unusedSectionVars false

namespace Go.Proofs.YtcmaipijkjillaaDoor
open Go Go.AM
set_option maxRecDepth 10000

theorem retQ {H:Heap} {r:Nat} (h:Own H r 37 [.bool false,.slice none 0 0,.bool false,.slice none 0 0]) {v:Value} {n d:Int} {lo:Nat} (hq:QIs H v n d lo) :
    ∃ H2,aStore Tryd.prog H 37 (.pointer (some ⟨r,0,none⟩)) v = some H2 ∧ aLoad Tryd.prog H2 37 (.pointer (some ⟨r,0,none⟩)) = some v ∧ QIs H2 v n d lo ∧ (∀ H0,Keep H0 H → H0.size ≤ r → Keep H0 H2):=by
  obtain ⟨t1,t2,t3,t4,rfl,q1,q2⟩:=hq;have q1':=q1;have q2':=q2;obtain ⟨u1,w1,r1,o1,hu1,s1,_⟩:=q1;obtain ⟨u2,w2,r2,o2,hu2,s2,_⟩:=q2;obtain ⟨a1,c1,rfl⟩:=s1.v0;obtain ⟨a2,c2,rfl⟩:=s2.v0;cases hu1;cases hu2;obtain ⟨H2,ps,q8,hsz,hkp⟩:=stQ h rfl (decide (n < 0)) (decide (d < 0)) a1 a2 w1.length w2.length c1 c2;exact ⟨H2,ps,by rw [ldQ,q8]; rfl,⟨_,_,_,_,rfl,BigIs.other h ps hsz q1',BigIs.other h ps hsz q2'⟩,hkp⟩

variable {S:AM.Sys} (hS:Only S 6)
include hS

theorem Frac_runs (x y:Int) (H:Heap) (hg:Grp H) (hL:H.low ≤ H.size) (hx:0 ≤ x) (hy:0 < y) (hx2:x ≤ 9223372036854775807) (hy2:y ≤ 9223372036854775807):∃ H' v,Keep H H' ∧ Grp H' ∧ QIs H' v (x / (Nat.gcd x.toNat y.toNat:Nat)) (y / (Nat.gcd x.toNat y.toNat:Nat)) 400 ∧ Runs Tryd.prog S (.fn 12) [.int .i64 x,.int .i64 y] H v H':=by
  suffices h:WCall Tryd.prog S (.fn 12) [.int .i64 x,.int .i64 y] H (fun v H' => Keep H H' ∧ Grp H' ∧ QIs H' v (x / (Nat.gcd x.toNat y.toNat:Nat)) (y / (Nat.gcd x.toNat y.toNat:Nat)) 400) by
    obtain ⟨v,H',hr,h1,h2,h3⟩:=h; exact ⟨H',v,h1,h2,h3,hr⟩
  obtain ⟨H3,b3,hK3,hs3,zz3,hr3⟩:=box1 H [.bool false,.slice none 0 0,.bool false,.slice none 0 0] 37;have ow3:Own H3 H.size 37 [.bool false,.slice none 0 0,.bool false,.slice none 0 0]:=(b3 ▸ Own.new H _ _);clear zz3 hr3;have hob:=Of_runs hS x H3 (hK3.grp hg) (hK3.low hL) (by omega)
  obtain ⟨H4,vx,hK4,hg4,bx,hR4⟩:=hob;have f4:=hR4.bx;have hob5:=Of_runs hS y H4 hg4 ((hK3.trans hK4).low hL) (by omega)
  obtain ⟨H5,vy,hK5,hg5,by',hR5⟩:=hob5
  have f5:=hR5.bx;have hob6:=lowest_runs hS vx vy x y 5 5 H5 hg5 (((hK3.trans hK4).trans hK5).low hL) hx hy (bx.keep hK5) by' (by omega) (by omega)
  obtain ⟨H6,vq,hK6,hg6,hq,hR6⟩:=hob6;have f6:=hR6.bx;have hK36:=(hK4.trans hK5).trans hK6;obtain ⟨H7,ps,hld,hq7,hkp⟩:=retQ (ow3.keep hK36) hq;have hK7:=hkp H (hK3.trans hK36) (Nat.le_refl _);have hg7:=hK7.grp hg;refine call_of Tryd.func12 rfl (Nat.le_of_ble_eq_true rfl) (hS.no rfl _ _) ?_
  rw [Tryd.ntmps12,Tryd.results12];clear hR4 hR5 hR6 bx by' hq ow3 hkp
  repeat' simp only [↓Zabo,↓Zabq,↓Zabp,↓Zacj,↓Zaci,↓Zaco,↓Zaar,↓Zaaj,↓Zaat,↓Zaau,↓Zacl,↓bxPut,↓Zabj,↓Zabh,↓Zacm,↓bxRes_cell,↓Zacp,↓Zaaz,↓Zaay,Zack,Zabs,Zabe,List.map,List.nil_append,List.append_nil,↓reduceIte,Nat.reduceEqDiff,Nat.reduceLT,and_self, *,argF,List.getD_cons_zero,List.getD_cons_succ,alQ]
end Go.Proofs.YtcmaipijkjillaaDoor
