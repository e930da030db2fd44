/- Whole numbers of any size, continued: the product. -/
import Derived.Test.YtcmaipijkjillaaDoorB7
set_option linter.unusedVariables false
set_option linter.unusedSimpArgs false
set_option linter.unusedSectionVars false

namespace Go.Proofs.YtcmaipijkjillaaDoor
open Go Go.AM
set_option maxRecDepth 10000
theorem faG0 (r o:Nat):aFieldAt Tryd.prog 35 0 (.pointer (some ⟨r,o,none⟩)) = some (.pointer (some ⟨r,o + 0,none⟩)):=by kernel_rfl
theorem faG1 (r o:Nat):aFieldAt Tryd.prog 35 1 (.pointer (some ⟨r,o,none⟩)) = some (.pointer (some ⟨r,o + 1,none⟩)):=by kernel_rfl
theorem ldB4 (H:Heap) (r o:Nat):aLoad Tryd.prog H 4 (.pointer (some ⟨r,o,none⟩)) = (H.read r o 1).bind one1:=by kernel_rfl
theorem neqB (a b:Bool):binP Tryd.prog .neq 4 (.bool a) (.bool b) = some (.bool (!(a == b))):=binP_neq Tryd.underlying4 a b
theorem BigIs.keep {H H':Heap} {v:Value} {z:Int} {lo:Nat} (h:BigIs H v z lo) (hk:Keep H H'):BigIs H' v z lo:=by
  obtain ⟨v',w,r,o,h1,h2,h3⟩:=h;exact ⟨v',w,r,o,h1,h2.keep hk,h3⟩

variable {S:AM.Sys} (hS:Only S 6)
include hS

theorem Times_runs (v1 v2:Value) (x y:Int) (l1 l2:Nat) (H:Heap) (hg:Grp H) (hL:H.low ≤ H.size) (h1:BigIs H v1 x l1) (h2:BigIs H v2 y l2) (hl1:l1 ≤ 400) (hl2:l2 ≤ 400):BigOut S 36 [v1,v2] H (x * y) (l1 + l2):=by
  suffices h:WCall Tryd.prog S (.fn 36) [v1,v2] H (fun v H' => Keep H H' ∧ Grp H' ∧ BigIs H' v (x * y) (l1 + l2)) by
    obtain ⟨v,H',hr,h1,h2,h3⟩:=h; exact ⟨H',v,h1,h2,h3,hr⟩
  obtain ⟨u1,w1,r1,o1,rfl,s1,d1,n1,e1,g1⟩:=h1;obtain ⟨u2,w2,r2,o2,rfl,s2,d2,n2,e2,g2⟩:=h2;obtain ⟨a1,c1,rfl⟩:=s1.v0;obtain ⟨a2,c2,rfl⟩:=s2.v0;obtain ⟨H1,b1,hK1,hs1,zz1,hr1⟩:=box1 H [.bool (decide (x < 0)),.slice a1 w1.length c1] 35;obtain ⟨H2,b2,hK2,hs2,zz2,hr2⟩:=box1 H1 [.bool (decide (y < 0)),.slice a2 w2.length c2] 35;obtain ⟨H3,b3,hK3,hs3,zz3,_⟩:=box1 H2 [.bool false,.slice none 0 0] 35;have ow:Own H3 H2.size 35 [.bool false,.slice none 0 0]:=b3 ▸ Own.new H2 _ _;clear zz1 zz2 zz3;have q0:=(hK2.trans hK3).read hs1 (hr1 0 1 (show 0 + 1 ≤ 2 by omega))
  have q1:=(hK2.trans hK3).read hs1 (hr1 1 1 (show 1 + 1 ≤ 2 by omega))
  have q2:=hK3.read hs2 (hr2 0 1 (show 0 + 1 ≤ 2 by omega))
  have q3:=hK3.read hs2 (hr2 1 1 (show 1 + 1 ≤ 2 by omega))
  replace q0:H3.read H.size 0 1 = some [.bool (decide (x < 0))]:=q0;replace q1:H3.read H.size 1 1 = some [.slice a1 w1.length c1]:=q1;replace q2:H3.read H1.size 0 1 = some [.bool (decide (y < 0))]:=q2;replace q3:H3.read H1.size 1 1 = some [.slice a2 w2.length c2]:=q3;have hK03:=(hK1.trans hK2).trans hK3;have hL3:=hK03.low hL;have hg3:=hK03.grp hg;have hrl:=Keep.relowS H3;have hob:=mulD_runs hS _ _ w1 w2 r1 o1 r2 o2 (H3.relow H3.size) (hrl.grp hg3) (Nat.le_refl _) ((s1.keep hK03).keep hrl) ((s2.keep hK03).keep hrl) d1 d2 (by omega) (by omega)
  obtain ⟨w,hdg,hle,H4,v4,r4,o4,hK4,hg4,s4,hF4,hfr4,hR4⟩:=hob;have hd1:∀ (all:List Oper) (n:Nat) (k:Heap → Prop),sxD all n H3 H4 k = k (H4.relow (Nat.min H3.low H4.low)):=fun all n k => sxD_keep hK4 k
  have hK35:=Keep.draw hK4;have s5:SlI .i64 (H4.relow (Nat.min H3.low H4.low)) v4 w r4 o4:=⟨s4.isv,s4.rd,s4.lt,s4.ml⟩;have hL5:=hK35.low hL3;have hg5:=hK35.grp hg3;generalize hH5:H4.relow (Nat.min H3.low H4.low) = H5 at *;have hrl5:=Keep.relowS H5;have hob2:=whole_runs hS (!(decide (x < 0) == decide (y < 0))) v4 w r4 o4 (H5.relow H5.size) (hrl5.grp hg5) (Nat.le_refl _) (s5.keep hrl5) (by omega)
  obtain ⟨H6,v6,r6,o6,hK6,hg6,s6,hF6,hfr6,hR6⟩:=hob2;have hd2:∀ (all:List Oper) (n:Nat) (k:Heap → Prop),sxD all n H5 H6 k = k (H6.relow (Nat.min H5.low H6.low)):=fun all n k => sxD_keep hK6 k
  have hK57:=Keep.draw hK6;have s7:SlI .i64 (H6.relow (Nat.min H5.low H6.low)) v6 (trimL w) r6 o6:=⟨s6.isv,s6.rd,s6.lt,s6.ml⟩;generalize hH7:H6.relow (Nat.min H5.low H6.low) = H7 at *;have hK37:=hK35.trans hK57;have ow7:=(ow.keep hK37).addr (l:=H7.size);obtain ⟨a6,c6,rfl⟩:=s7.v0;have hob3:=stBig ow7 rfl (!(decide (x < 0) == decide (y < 0)) && decide (0 < (trimL w).length)) a6 (trimL w).length c6;obtain ⟨H8,ps,q8,hsz8,hkp⟩:=hob3;have hK07:=hK03.trans hK37;have hK8:=hkp H (hK07.trans (Keep.relowS H7)) (Nat.le_trans hK1.size hK2.size);have hK9:=Keep.lower hK07 hK8;have hg9:=hK9.grp hg
  have s8:=SlE.other ow7 ps hsz8 (s7.keep (Keep.relowS H7)) (fun h0 => by
    have h5:=hfr6 h0;have h6:H5.size ≤ r6:=h5;have:=hK35.size;have:=ow.lt
    omega)
  have hbig:BigIs (H8.relow (Nat.min H7.low H8.low)) (.agg ⟨[.bool (!(decide (x < 0) == decide (y < 0)) && decide (0 < (trimL w).length)),.slice a6 (trimL w).length c6]⟩) (x * y) (l1 + l2):=by
    have hvt:val (trimL w) = (x * y).natAbs:=by
      rw [trimL_val,hdg.2.2,e1,e2,Int.natAbs_mul];rw [Int.toNat_of_nonneg (Int.mul_nonneg (Int.natCast_nonneg _) (Int.natCast_nonneg _)),Int.natCast_mul]
    have htd:=trimL_digs hdg.1;have htn:=trimL_norm w;have hsg:(!(decide (x < 0) == decide (y < 0)) && decide (0 < (trimL w).length)) = decide (x * y < 0):=by
      have hpos:=val_zero htd htn;rw [hvt] at hpos
      by_cases hx:x < 0
      · by_cases hy:y < 0
        · have:=Int.mul_pos_of_neg_of_neg hx hy;simp [hx,hy]; omega
        · rcases Int.lt_or_eq_of_le (show 0 ≤ y by omega) with hy0 | hy0
          · have:=Int.mul_neg_of_neg_of_pos hx hy0;have hl:0 < (trimL w).length:=hpos.2 (by omega)
            simp [hx,hy,hl]; omega
          · subst hy0;have hl:¬ 0 < (trimL w).length:=fun h => by have:=hpos.1 h; simp at this
            simp [hl]
      · by_cases hy:y < 0
        · rcases Int.lt_or_eq_of_le (show 0 ≤ x by omega) with hx0 | hx0
          · have:=Int.mul_neg_of_pos_of_neg hx0 hy;have hl:0 < (trimL w).length:=hpos.2 (by omega)
            simp [hx,hy,hl]; omega
          · subst hx0;have hl:¬ 0 < (trimL w).length:=fun h => by have:=hpos.1 h; simp at this
            simp [hl]
        · have:=Int.mul_nonneg (show 0 ≤ x by omega) (show 0 ≤ y by omega)
          simp [hx,hy]; omega
    have s9:SlI .i64 (H8.relow (Nat.min H7.low H8.low)) (.slice a6 (trimL w).length c6) (trimL w) r6 o6:=⟨s8.isv,s8.rd,s8.lt,s8.ml⟩;exact ⟨_,trimL w,r6,o6,by rw [hsg],s9,htd,htn,hvt,by have:=trimL_le w; omega⟩
  have f4:=hR4.bx;have f6:=hR6.bx;have hc1:(Value.agg ⟨[.bool (decide (x < 0)),.slice a1 w1.length c1]⟩).cells.toList = [.bool (decide (x < 0)),.slice a1 w1.length c1]:=rfl;have hc2:(Value.agg ⟨[.bool (decide (y < 0)),.slice a2 w2.length c2]⟩).cells.toList = [.bool (decide (y < 0)),.slice a2 w2.length c2]:=rfl;refine call_of Tryd.func36 rfl (Nat.le_of_ble_eq_true rfl) (hS.no rfl _ _) ?_
  rw [Tryd.ntmps36,Tryd.results36];clear hR4 hR6 s1 s2 s4 s5 s6 s7 s8 ow ow7 hkp hfr4 hfr6 hr1 hr2 hdg d1 d2 n1 n2 e1 e2 g1 g2 hsz8;generalize (!(decide (x < 0) == decide (y < 0)) && decide (0 < (trimL w).length)) = sg at *;generalize (trimL w).length = tl at *
  repeat' (first | simp only [↓Zabm,↓Zabo,↓Zabq,↓Zabp,↓Zacj,↓Zaci,↓Zacc,↓Zaai,↓Zabz,↓Zabv,↓Zabx,↓sxD_same,↓Zaco,↓Zaaj,↓bxOp_box,↓Zaaq,↓Zaat,↓Zaal,↓Zaan,↓Zaau,↓Zacl,↓bxPut,↓Zabj,↓Zabh,↓Zacm,↓bxRes_cell,↓Zacp,↓Zaaz,↓Zaay,Zack,Zabs,Zabe,List.map,List.nil_append,List.append_nil,↓reduceIte,Nat.reduceEqDiff,Nat.reduceLT,and_self,read_relow,Zaaa,Nat.add_zero,one1,Option.bind_some,Option.map_some, *,argF,List.getD_cons_zero,List.getD_cons_succ,alBig,ldBig,faG0,faG1,ldB4,ldIs,neqB,Nat.zero_add] | (with_reducible first | refine Zabu (by assumption) (by decide +kernel) ?_ | refine Zabt (by decide +kernel) ?_ | refine Zacb (by decide +kernel) ?_ | refine Zabw ?_))
  all_goals trace_state
end Go.Proofs.YtcmaipijkjillaaDoor
