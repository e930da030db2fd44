/- Shares by any rule, by the program. -/
import Derived.Test.YtpeoleimmabceaaGreatE7
set_option linter.unusedVariables false
set_option linter.unusedSimpArgs false
set_option linter.unusedSectionVars false

namespace Go.Proofs.YtpeoleimmabceaaGreat
open Go Go.AM
set_option maxRecDepth 10000

def isRule (rule:Int):Prop:=0 ≤ rule ∧ rule ≤ 4
instance (rule:Int):Decidable (isRule rule):=by unfold isRule; infer_instance
def PostDv (R:Int → List Int → List Int → Int → Prop) (H:Heap) (rule e:Int) (c:List Int) (u:Value) (H':Heap):Prop:=
  ∃ a n cp z b,u = .tuple ⟨[.agg ⟨[.slice a n cp,.int .i64 z]⟩,.bool b]⟩ ∧ Keep H H' ∧ (b = true ↔ isRule rule) ∧ (b = true → ∃ w d,Good e c w d ∧ Awd R rule e c w d ∧ PV H H' (.agg ⟨[.slice a n cp,.int .i64 z]⟩) w d)
def RunOk (S:AM.Sys) (R:Int → List Int → List Int → Int → Prop) (rule e:Int) (v:Value) (c:List Int) (H:Heap):Prop:=
  rule = 4 → ∀ H1,Keep H H1 → ∃ u H',Runs Tryz.prog S (.fn 42) [.int .i64 e,v] H1 u H' ∧ Keep H1 H' ∧ ∃ w d,Good e c w d ∧ R e c w d ∧ PV H1 H' u w d
theorem PV.shape {H0 H:Heap} {u:Value} {w:List Int} {d:Int} (h:PV H0 H u w d):∃ a n cp,u = .agg ⟨[.slice a n cp,.int .i64 d]⟩:=by
  obtain ⟨v,r,rfl,h2,_⟩:=h;obtain ⟨a,cp,rfl⟩:=h2.v0;exact ⟨a,_,cp,rfl⟩
theorem bdP0:aBuild Tryz.prog 26 [] = some (.agg ⟨[.slice none 0 0,.int .i64 0]⟩):=by kernel_rfl

variable {S:AM.Sys} (hS:Only S 5)
include hS

theorem divided_done {R:Int → List Int → List Int → Int → Prop} {rule e:Int} {c:List Int} {H H1 H2:Heap} {u:Value} {w:List Int} {d:Int} (k1:Keep H H1) (s1:H.size < H1.size) (ow1:Own H1 H.size 26 [.slice none 0 0,.int .i64 0]) (k2:Keep H1 H2) (hv:PV H1 H2 u w d)
    (hr:isRule rule) (h1:Good e c w d) (h2:Awd R rule e c w d) :
    ∃ a n cp H3,u = .agg ⟨[.slice a n cp,.int .i64 d]⟩ ∧ aStore Tryz.prog H2 26 (.pointer (some ⟨H.size,0,none⟩)) u = some H3 ∧ H3.read H.size 0 2 = some [.slice a n cp,.int .i64 d] ∧ PostDv R H rule e c (.tuple ⟨[.agg ⟨[.slice a n cp,.int .i64 d]⟩,.bool true]⟩) H3:=by
  obtain ⟨a,n,cp,rfl⟩:=hv.shape;obtain ⟨H3,st3,o3,z3,x3,k03⟩:=stPX (ow1.keep k2) rfl a n cp d (k1.trans k2) (Nat.le_refl _);exact ⟨a,n,cp,H3,rfl,st3,(ownP o3).1,a,n,cp,d,true,rfl,k03,⟨fun _ => hr,fun _ => rfl⟩,fun _ => ⟨w,d,h1,h2,(hv.x s1 x3).low (by omega)⟩⟩

set_option maxHeartbeats 4000000 in
theorem divided_runs (R:Int → List Int → List Int → Int → Prop) (rule e:Int) (v:Value) (c:List Int) (r o:Nat) (H:Heap) (hg:Grp H) (hL:H.low ≤ H.size) (hl:SlI .i64 H v c r o) (h0:0 < c.length) (h7:c.length ≤ 7) (hc:∀ x ∈ c,0 ≤ x ∧ x ≤ 100000) (he:0 ≤ e ∧ e ≤ 100000) (hs:e ≤ c.sum)
    (hrun:RunOk S R rule e v c H) :
    ∃ u H',Runs Tryz.prog S (.fn 15) [.int .i64 rule,.int .i64 e,v] H u H' ∧ PostDv R H rule e c u H':=by
  suffices h:WCall Tryz.prog S (.fn 15) [.int .i64 rule,.int .i64 e,v] H (fun u H' => PostDv R H rule e c u H') by
    obtain ⟨u,H',hr,h⟩:=h; exact ⟨u,H',hr,h⟩
  have hsm:=Q.sum_le 100000 c fun x hx => (hc x hx).2
  obtain ⟨va,vc,rfl⟩:=hl.v0;obtain ⟨H1,e1,k1,s1,-,-⟩:=box1 H [.slice none 0 0,.int .i64 0] 26;have ow1:Own H1 H.size 26 [.slice none 0 0,.int .i64 0]:=e1 ▸ Own.new H _ _;have al1:aAlloc Tryz.prog H 26 = some (.pointer (some ⟨H.size,0,none⟩),H1):=by rw [alP,e1]
  have f1:=(Q.total_runs hS _ c r o H1 (hl.keep k1) (fun x hx => (hc x hx).1) (by omega)).bx
  have hwm:IntKind.i64.wrap (c.sum - e) = c.sum - e:=IntWalk.i64_in _ (by omega)
  have g1:=k1.grp hg;have lw1:=k1.low hL;have hl1:=hl.keep k1
  by_cases r0:rule = 0
  · obtain ⟨u2,H2,hR2,k2,s,L,hq,hv⟩:=equal_runs hS e _ c r o H1 g1 lw1 hl1 h0 h7 hc he.1 hs;obtain ⟨q1,q2⟩:=hq.good hc h7;obtain ⟨a,n,cp,H3,rfl,st3,rd3,hp⟩:=divided_done hS (R:=R) (rule:=rule) k1 s1 ow1 k2 hv (by unfold isRule; omega) q1 (by unfold Awd; rw [if_pos r0]; exact q2)
    have f2:=hR2.bx;have d0:decide (rule = 0) = true:=decide_eq_true r0;clear hR2 hq hv q1 q2 hl hl1 ow1 hrun hc hs r0;refine Zaaw Tryz.func15 rfl (Nat.le_of_ble_eq_true rfl) (hS.no rfl _ _) ?_
    rw [Tryz.ntmps15,Tryz.results15]
    repeat' (first | simp only [↓Zabs,↓Zabp,↓Zabr,↓Zaae,↓Zabm,↓Zabq,↓Zacj,↓Zaci,↓Zaco,↓Zaaq,↓Zaaj,↓Zaah,↓bxOp_build,↓Zaas,↓Zaak,↓Zaat,↓Zacl,↓bxPut,↓Zabk,↓Zabl,↓Zaad,↓blockQ_ret,↓Zabi,↓Zacm,↓Zacn,↓Zaau,↓Zacp,↓Zaba,↓Zaay,↓Zaaz,Zack,Zaab,Zabd,Zabt,Zach,packRes_two,List.map_cons,List.map_nil,List.nil_append,List.append_nil,↓reduceIte,Nat.reduceEqDiff,Nat.reduceLT,Option.map_some, *,argF,List.getD_cons_zero,List.getD_cons_succ,ldP])
  have d0:decide (rule = 0) = false:=decide_eq_false r0
  by_cases r1:rule = 1
  · obtain ⟨u2,H2,hR2,k2,s,L,hq,hv⟩:=equal_runs hS (c.sum - e) _ c r o H1 g1 lw1 hl1 h0 h7 hc (by omega) (by omega)
    obtain ⟨q1,q2⟩:=hq.good hc h7;obtain ⟨v2,r2,rfl,sv2,hr2⟩:=hv;have hs1:=hq.s1;have hs2:=hq.s2;obtain ⟨u3,H3,hR3,k3,hv3⟩:=less_parts_runs hS _ v2 c _ s r o r2 0 H2 (k2.grp g1) (k2.low lw1) (hl1.keep k2) sv2 (by simp) h7 hc (by omega) q1.rng
    have hv3:=hv3.low (H0:=H1) k2.size;obtain ⟨a,n,cp,H4,rfl,st4,rd4,hp⟩:=divided_done hS (R:=R) (rule:=rule) (e:=e) (c:=c) k1 s1 ow1 (k2.trans k3) hv3 (by unfold isRule; omega) q1.loss (by unfold Awd; rw [if_neg r0,if_pos r1,zipL_zipL (by simp)]; exact q2)
    have f2:=hR2.bx;have f3:=hR3.bx;have d1:decide (rule = 1) = true:=decide_eq_true r1;clear hR2 hR3 hq hv3 q1 q2 hl hl1 ow1 hrun hc hs r0 r1 sv2;refine Zaaw Tryz.func15 rfl (Nat.le_of_ble_eq_true rfl) (hS.no rfl _ _) ?_
    rw [Tryz.ntmps15,Tryz.results15]
    repeat' (first | simp only [↓Zabs,↓Zabp,↓Zabr,↓Zaae,↓Zabm,↓Zabq,↓Zacj,↓Zaci,↓Zaco,↓Zaaq,↓Zaaj,↓Zaah,↓bxOp_build,↓Zaas,↓Zaak,↓Zaat,↓Zacl,↓bxPut,↓Zabk,↓Zabl,↓Zaad,↓blockQ_ret,↓Zabi,↓Zacm,↓Zacn,↓Zaau,↓Zacp,↓Zaba,↓Zaay,↓Zaaz,Zack,Zaab,Zabd,Zabt,Zach,Zacg,packRes_two,List.map_cons,List.map_nil,List.nil_append,List.append_nil,↓reduceIte,Nat.reduceEqDiff,Nat.reduceLT,Option.map_some, *,argF,List.getD_cons_zero,List.getD_cons_succ,ldP])
  have d1:decide (rule = 1) = false:=decide_eq_false r1
  by_cases r2':rule = 2
  · obtain ⟨u2,H2,hR2,k2,hv⟩:=propo_runs hS e _ c r o H1 g1 lw1 hl1 h7 hc he;obtain ⟨q1,q2⟩:=Good.part hc h7 he.1 hs;obtain ⟨a,n,cp,H3,rfl,st3,rd3,hp⟩:=divided_done hS (R:=R) (rule:=rule) k1 s1 ow1 k2 hv (by unfold isRule; omega) q1 (by unfold Awd; rw [if_neg r0,if_neg r1,if_pos r2']; exact q2)
    have f2:=hR2.bx;have d2:decide (rule = 2) = true:=decide_eq_true r2';clear hR2 hv q1 q2 hl hl1 ow1 hrun hc hs r0 r1 r2';refine Zaaw Tryz.func15 rfl (Nat.le_of_ble_eq_true rfl) (hS.no rfl _ _) ?_
    rw [Tryz.ntmps15,Tryz.results15]
    repeat' (first | simp only [↓Zabs,↓Zabp,↓Zabr,↓Zaae,↓Zabm,↓Zabq,↓Zacj,↓Zaci,↓Zaco,↓Zaaq,↓Zaaj,↓Zaah,↓bxOp_build,↓Zaas,↓Zaak,↓Zaat,↓Zacl,↓bxPut,↓Zabk,↓Zabl,↓Zaad,↓blockQ_ret,↓Zabi,↓Zacm,↓Zacn,↓Zaau,↓Zacp,↓Zaba,↓Zaay,↓Zaaz,Zack,Zaab,Zabd,Zabt,Zach,Zacg,packRes_two,List.map_cons,List.map_nil,List.nil_append,List.append_nil,↓reduceIte,Nat.reduceEqDiff,Nat.reduceLT,Option.map_some, *,argF,List.getD_cons_zero,List.getD_cons_succ,ldP])
  have d2:decide (rule = 2) = false:=decide_eq_false r2'
  by_cases r3:rule = 3
  · have d3:decide (rule = 3) = true:=decide_eq_true r3
    by_cases hm:e ≤ c.sum - e
    · obtain ⟨u2,H2,hR2,k2,s,L,hq,hv⟩:=halves_runs hS e _ c r o H1 g1 lw1 hl1 h0 h7 hc he.1 (by omega)
      obtain ⟨q1,q2⟩:=hq.half hc h7;obtain ⟨a,n,cp,H3,rfl,st3,rd3,hp⟩:=divided_done hS (R:=R) (rule:=rule) k1 s1 ow1 k2 hv (by unfold isRule; omega) q1 (by unfold Awd; rw [if_neg r0,if_neg r1,if_neg r2',if_pos r3,if_pos hm]; exact q2)
      have f2:=hR2.bx;clear hR2 hq hv q1 q2 hl hl1 ow1 hrun hc hs r0 r1 r2' r3;refine Zaaw Tryz.func15 rfl (Nat.le_of_ble_eq_true rfl) (hS.no rfl _ _) ?_
      rw [Tryz.ntmps15,Tryz.results15]
      repeat' (first | simp only [↓Zabs,↓Zabp,↓Zabr,↓Zaae,↓Zabm,↓Zabq,↓Zacj,↓Zaci,↓Zaco,↓Zaaq,↓Zaaj,↓Zaah,↓bxOp_build,↓Zaas,↓Zaak,↓Zaat,↓Zacl,↓bxPut,↓Zabk,↓Zabl,↓Zaad,↓blockQ_ret,↓Zabi,↓Zacm,↓Zacn,↓Zaau,↓Zacp,↓Zaba,↓Zaay,↓Zaaz,Zack,Zaab,Zabd,Zabt,Zach,Zacg,packRes_two,List.map_cons,List.map_nil,List.nil_append,List.append_nil,↓reduceIte,Nat.reduceEqDiff,Nat.reduceLT,dec_T,Option.map_some, *,argF,List.getD_cons_zero,List.getD_cons_succ,ldP])
    · obtain ⟨u2,H2,hR2,k2,s,L,hq,hv⟩:=halves_runs hS (c.sum - e) _ c r o H1 g1 lw1 hl1 h0 h7 hc (by omega) (by omega)
      obtain ⟨q1,q2⟩:=hq.half hc h7;obtain ⟨v2,r2,rfl,sv2,hr2⟩:=hv;have hs1:=hq.s1;have hs2:=hq.s2;obtain ⟨u3,H3,hR3,k3,hv3⟩:=less_parts_runs hS _ v2 c _ (s * 2) r o r2 0 H2 (k2.grp g1) (k2.low lw1) (hl1.keep k2) sv2 (by simp) h7 hc (by omega) q1.rng
      have hv3:=hv3.low (H0:=H1) k2.size;obtain ⟨a,n,cp,H4,rfl,st4,rd4,hp⟩:=divided_done hS (R:=R) (rule:=rule) (e:=e) (c:=c) k1 s1 ow1 (k2.trans k3) hv3 (by unfold isRule; omega) q1.loss (by unfold Awd; rw [if_neg r0,if_neg r1,if_neg r2',if_pos r3,if_neg hm,zipL_zipL (by simp)]; exact q2)
      have f2:=hR2.bx;have f3:=hR3.bx;clear hR2 hR3 hq hv3 q1 q2 hl hl1 ow1 hrun hc hs r0 r1 r2' r3 sv2;refine Zaaw Tryz.func15 rfl (Nat.le_of_ble_eq_true rfl) (hS.no rfl _ _) ?_
      rw [Tryz.ntmps15,Tryz.results15]
      repeat' (first | simp only [↓Zabs,↓Zabp,↓Zabr,↓Zaae,↓Zabm,↓Zabq,↓Zacj,↓Zaci,↓Zaco,↓Zaaq,↓Zaaj,↓Zaah,↓bxOp_build,↓Zaas,↓Zaak,↓Zaat,↓Zacl,↓bxPut,↓Zabk,↓Zabl,↓Zaad,↓blockQ_ret,↓Zabi,↓Zacm,↓Zacn,↓Zaau,↓Zacp,↓Zaba,↓Zaay,↓Zaaz,Zack,Zaab,Zabd,Zabt,Zach,Zacg,packRes_two,List.map_cons,List.map_nil,List.nil_append,List.append_nil,↓reduceIte,Nat.reduceEqDiff,Nat.reduceLT,dec_F,Option.map_some, *,argF,List.getD_cons_zero,List.getD_cons_succ,ldP])
  have d3:decide (rule = 3) = false:=decide_eq_false r3
  by_cases r4:rule = 4
  · obtain ⟨u2,H2,hR2,k2,w,d,q1,q2,hv⟩:=hrun r4 H1 k1;obtain ⟨a,n,cp,H3,rfl,st3,rd3,hp⟩:=divided_done hS (R:=R) (rule:=rule) k1 s1 ow1 k2 hv (by unfold isRule; omega) q1 (by unfold Awd; rw [if_neg r0,if_neg r1,if_neg r2',if_neg r3]; exact q2)
    have f2:=hR2.bx;have d4:decide (rule = 4) = true:=decide_eq_true r4;clear hR2 hv q1 q2 hl hl1 ow1 hrun hc hs r0 r1 r2' r3 r4;refine Zaaw Tryz.func15 rfl (Nat.le_of_ble_eq_true rfl) (hS.no rfl _ _) ?_
    rw [Tryz.ntmps15,Tryz.results15]
    repeat' (first | simp only [↓Zabs,↓Zabp,↓Zabr,↓Zaae,↓Zabm,↓Zabq,↓Zacj,↓Zaci,↓Zaco,↓Zaaq,↓Zaaj,↓Zaah,↓bxOp_build,↓Zaas,↓Zaak,↓Zaat,↓Zacl,↓bxPut,↓Zabk,↓Zabl,↓Zaad,↓blockQ_ret,↓Zabi,↓Zacm,↓Zacn,↓Zaau,↓Zacp,↓Zaba,↓Zaay,↓Zaaz,Zack,Zaab,Zabd,Zabt,Zach,Zacg,packRes_two,List.map_cons,List.map_nil,List.nil_append,List.append_nil,↓reduceIte,Nat.reduceEqDiff,Nat.reduceLT,Option.map_some, *,argF,List.getD_cons_zero,List.getD_cons_succ,ldP])
  have d4:decide (rule = 4) = false:=decide_eq_false r4;obtain ⟨H3,st3,o3,z3,x3,k03⟩:=stPX ow1 rfl none 0 0 0 k1 (Nat.le_refl _);have rd3:=(ownP o3).1;have hp:PostDv R H rule e c (.tuple ⟨[.agg ⟨[.slice none 0 0,.int .i64 0]⟩,.bool false]⟩) H3:=⟨none,0,0,0,false,rfl,k03,⟨fun h => (by cases h),fun h => (by unfold isRule at h; omega)⟩,fun h => (by cases h)⟩
  clear hl hl1 ow1 hrun hc hs r0 r1 r2' r3 r4 o3 z3 x3 k03;refine Zaaw Tryz.func15 rfl (Nat.le_of_ble_eq_true rfl) (hS.no rfl _ _) ?_
  rw [Tryz.ntmps15,Tryz.results15]
  repeat' (first | simp only [↓Zabs,↓Zabp,↓Zabr,↓Zaae,↓Zabm,↓Zabq,↓Zacj,↓Zaci,↓Zaco,↓Zaaq,↓Zaaj,↓Zaah,↓bxOp_build,↓Zaas,↓Zaak,↓Zaat,↓Zacl,↓bxPut,↓Zabk,↓Zabl,↓Zaad,↓blockQ_ret,↓Zabi,↓Zacm,↓Zacn,↓Zaau,↓Zacp,↓Zaba,↓Zaay,↓Zaaz,Zack,Zaab,Zabd,Zabt,Zacg,packRes_two,List.map_cons,List.map_nil,List.nil_append,List.append_nil,↓reduceIte,Nat.reduceEqDiff,Nat.reduceLT,Option.map_some, *,argF,List.getD_cons_zero,List.getD_cons_succ,ldP,bdP0])
end Go.Proofs.YtpeoleimmabceaaGreat
