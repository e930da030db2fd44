/- Fractions, continued: which one is greater. -/
import Derived.Test.YtcmaipijkjillaaDoorBD
set_option linter.unusedVariables false
set_option linter.unusedSimpArgs false
set_option linter.unusedSectionVars false

namespace Go.Proofs.YtcmaipijkjillaaDoor
open Go Go.AM
set_option maxRecDepth 10000

theorem BigIs.addr {H:Heap} {v:Value} {z:Int} {lo l:Nat} (h:BigIs H v z lo):BigIs (H.relow l) v z lo:=by
  obtain ⟨v',w,r,o,h1,h2,h3⟩:=h;exact ⟨v',w,r,o,h1,⟨h2.isv,h2.rd,h2.lt,h2.ml⟩,h3⟩

variable {S:AM.Sys} (hS:Only S 6)
include hS

theorem Cmp_runs (v1 v2:Value) (n1 d1 n2 d2:Int) (lo:Nat) (H:Heap) (hg:Grp H) (hL:H.low ≤ H.size) (h1:QIs H v1 n1 d1 lo) (h2:QIs H v2 n2 d2 lo) (hlo:lo ≤ 400):∃ H',Keep H H' ∧ Runs Tryd.prog S (.fn 14) [v1,v2] H (.int .i64 (sgn3 (n1 * d2) (n2 * d1))) H':=by
  suffices h:WCall Tryd.prog S (.fn 14) [v1,v2] H (fun v H' => v = .int .i64 (sgn3 (n1 * d2) (n2 * d1)) ∧ Keep H H') by
    obtain ⟨_,H',hr,rfl,hk⟩:=h; exact ⟨H',hk,hr⟩
  obtain ⟨t1,t2,t3,t4,rfl,p1,p2⟩:=h1;obtain ⟨t5,t6,t7,t8,rfl,p3,p4⟩:=h2;obtain ⟨H1,b1,hK1,hs1,zz1,hr1⟩:=box1 H [t1,t2,t3,t4] 37;obtain ⟨H2,b2,hK2,hs2,zz2,hr2⟩:=box1 H1 [t5,t6,t7,t8] 37;clear zz1 zz2;have q0:H2.read H.size 0 2 = some [t1,t2]:=hK2.read hs1 (hr1 0 2 (show 0 + 2 ≤ 4 by omega))
  have q1:H2.read H.size 2 2 = some [t3,t4]:=hK2.read hs1 (hr1 2 2 (show 2 + 2 ≤ 4 by omega))
  have q2:H2.read H1.size 0 2 = some [t5,t6]:=hr2 0 2 (show 0 + 2 ≤ 4 by omega)
  have q3:H2.read H1.size 2 2 = some [t7,t8]:=hr2 2 2 (show 2 + 2 ≤ 4 by omega)
  have hK02:=hK1.trans hK2;have hL2:=hK02.low hL;have hg2:=hK02.grp hg;have hrl:=Keep.relowS H2;have hob:=Times_runs hS _ _ n1 d2 lo lo (H2.relow H2.size) (hrl.grp hg2) (Nat.le_refl _) ((p1.keep hK02).keep hrl) ((p4.keep hK02).keep hrl) hlo hlo;obtain ⟨H3,x1,hK3,hg3,e1,hR3⟩:=hob;have f3:=hR3.bx;have hd1:∀ (all:List Oper) (n:Nat) (k:Heap → Prop),sxD all n H2 H3 k = k (H3.relow (Nat.min H2.low H3.low)):=fun all n k => sxD_keep hK3 k
  have hK24:=Keep.draw hK3;have e1':=e1.addr (l:=Nat.min H2.low H3.low);generalize hH4:H3.relow (Nat.min H2.low H3.low) = H4 at *;have hg4:=hK24.grp hg2;have hL4:=hK24.low hL2;have hrl4:=Keep.relowS H4;have hob2:=Times_runs hS _ _ n2 d1 lo lo (H4.relow H4.size) (hrl4.grp hg4) (Nat.le_refl _) ((p3.keep (hK02.trans hK24)).keep hrl4) ((p2.keep (hK02.trans hK24)).keep hrl4) hlo hlo;obtain ⟨H5,x2,hK5,hg5,e2,hR5⟩:=hob2;have f5:=hR5.bx;have hd2:∀ (all:List Oper) (n:Nat) (k:Heap → Prop),sxD all n H4 H5 k = k (H5.relow (Nat.min H4.low H5.low)):=fun all n k => sxD_keep hK5 k
  have hK46:=Keep.draw hK5;have e2':=e2.addr (l:=Nat.min H4.low H5.low);generalize hH6:H5.relow (Nat.min H4.low H5.low) = H6 at *;have hL6:=hK46.low hL4;have hrl6:=Keep.relowS H6;have hob3:=Compare_runs hS x1 x2 (n1 * d2) (n2 * d1) _ _ (H6.relow H6.size) (Nat.le_refl _) ((e1'.keep hK46).keep hrl6) (e2'.keep hrl6);obtain ⟨H7,hK7,hR7⟩:=hob3;have f7:=hR7.bx;have hd3:∀ (all:List Oper) (n:Nat) (k:Heap → Prop),sxD all n H6 H7 k = k (H7.relow (Nat.min H6.low H7.low)):=fun all n k => sxD_keep hK7 k
  have hK68:=Keep.draw hK7;have hK08:=((hK02.trans hK24).trans hK46).trans hK68;have q2':=hK24.read hs2 q2;have q1':=hK24.read (Nat.lt_of_lt_of_le hs1 hK2.size) q1;have hc1:(Value.agg ⟨[t1,t2,t3,t4]⟩).cells.toList = [t1,t2,t3,t4]:=rfl;have hc2:(Value.agg ⟨[t5,t6,t7,t8]⟩).cells.toList = [t5,t6,t7,t8]:=rfl;refine call_of Tryd.func14 rfl (Nat.le_of_ble_eq_true rfl) (hS.no rfl _ _) ?_
  rw [Tryd.ntmps14,Tryd.results14];clear hR3 hR5 hR7 p1 p2 p3 p4 e1 e2 e1' e2'
  repeat' (first | simp only [↓Zabm,↓Zabo,↓Zabq,↓Zabp,↓Zacj,↓Zaci,↓Zacc,↓Zaai,↓sxDL_assign,↓Zabz,↓Zabx,↓sxD_same,↓Zaco,↓Zaak,↓bxOp_box,↓Zaaq,↓Zaan,↓Zaau,↓bxPut,↓Zabj,↓Zabh,↓Zacm,↓Zacn,↓Zacp,↓Zaaz,↓Zaax,↓Zaay,Zack,Zabs,Zabe,List.map,List.nil_append,List.append_nil,↓reduceIte,Nat.reduceEqDiff,Nat.reduceLT,true_and,size_relow,low_relow,relow_relow,Zaaa,Nat.add_zero,Option.map_some, *,argF,List.getD_cons_zero,List.getD_cons_succ,qaG0,qaG1,ldBig,Nat.zero_add] | (with_reducible first | refine Zabu (by assumption) (by decide +kernel) ?_ | refine Zabt (by decide +kernel) ?_ | refine Zacb (by decide +kernel) ?_ | refine Zabw ?_))
  exact { size:=hK08.size,low:=fun _ => Nat.min_le_right _ _,lo:=Nat.le_min.2 ⟨hK08.lo,Nat.le_trans (Nat.min_le_right _ _) hK08.size⟩,row:=hK08.row,grp:=hK08.grp,mem:=hK08.mem }
end Go.Proofs.YtcmaipijkjillaaDoor
