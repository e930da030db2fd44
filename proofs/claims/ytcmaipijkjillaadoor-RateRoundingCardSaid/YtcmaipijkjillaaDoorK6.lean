/- A trail with one more offer, and whether it gains, by the program. -/
import Derived.Test.YtcmaipijkjillaaDoorK5
set_option linter.unusedVariables false
set_option linter.unusedSimpArgs false
set_option linter.unusedSectionVars false

namespace Go.Proofs.YtcmaipijkjillaaDoor
open Go Go.AM
set_option maxRecDepth 10000

theorem xt20 (a b:Value):aExtract (.tuple ⟨[a,b]⟩) 0 = some a:=rfl
theorem xt21 (a b:Value):aExtract (.tuple ⟨[a,b]⟩) 1 = some b:=rfl

variable {S:AM.Sys} (hS:Only S 6)
include hS

set_option maxHeartbeats 4000000 in
theorem with_bad (lst:List Int) (sz st en:Int) (rc:List Bool) (le rn rd i:Int) (x:Off) (c:Nat) (H:Heap) (hL:H.low ≤ H.size) (hl:lst.length = 6) (hr:rc.length = 6) (hc:c < 6) (hx:x.t = (c:Int)) (hb:(0 < sz ∧ st = en) ∨ rc.getD c false = true ∨ i < le) :
    ∃ H',Keep H H' ∧ Runs Tryd.prog S (.fn 23) [.agg ⟨trV lst sz st en rc le rn rd⟩,.int .i64 i,.agg ⟨x.cells⟩] H (.tuple ⟨[.agg ⟨trZ⟩,.bool false]⟩) H':=by
  suffices h:WCall Tryd.prog S (.fn 23) [.agg ⟨trV lst sz st en rc le rn rd⟩,.int .i64 i,.agg ⟨x.cells⟩] H (fun v H' => v = .tuple ⟨[.agg ⟨trZ⟩,.bool false]⟩ ∧ Keep H H') by
    obtain ⟨_,H',hr,rfl,hk⟩:=h; exact ⟨H',hk,hr⟩
  obtain ⟨H1,e1,k1,z1,-,-⟩:=box1 H (trV lst sz st en rc le rn rd) 60;have oa1:Own H1 H.size 60 (trV lst sz st en rc le rn rd):=e1 ▸ Own.new H _ _;obtain ⟨H2,e2,k2,s2,r4,r0,r1,r2,r3⟩:=boxO H1 x;obtain ⟨H3,e3,k3,z3,-,-⟩:=box1 H2 trZ 60;have oc3:Own H3 H2.size 60 trZ:=e3 ▸ Own.new H2 _ _;obtain ⟨H4,k4,R4⟩:=closed_runs hS lst sz st en rc le rn rd H3 hl hr;have f4:=R4.bx;obtain ⟨q18,-⟩:=tr_reads hl hr ((oa1.keep k2).keep k3);obtain ⟨-,q6,q7,q8,q15,q16,qc⟩:=tr_reads hl hr (((oa1.keep k2).keep k3).keep k4);have qcc:=qc c hc;have t1:=(k3.trans k4).read s2 r1;rw [hx] at t1;have ha:=alT H2;rw [e3] at ha;have hcs:(Value.agg ⟨trV lst sz st en rc le rn rd⟩).cells.toList = trV lst sz st en rc le rn rd:=rfl;have hcx:(Value.agg ⟨x.cells⟩).cells.toList = x.cells:=rfl;have k03:=(k1.trans k2).trans k3;obtain ⟨H5,p1,p2,p3,p4,p5⟩:=(oc3.keep k4).store (P:=Tryd.prog) (t:=60) infT.1 (v:=.agg ⟨trZ⟩) (new:=trZ) rfl infT.2 rfl (o:=0) (Nat.le_refl 18);have k5:=p5 H (k03.trans k4) (k1.trans k2).size;have hsp:splice trZ 0 trZ = trZ:=rfl;rw [hsp] at p2;obtain ⟨m18',-⟩:=tr_reads rfl rfl p2;have m18:H5.read H2.size 0 18 = some trZ:=m18';clear m18';have ixc:aIndexAt Tryd.prog 57 (.pointer (some ⟨H.size,9,none⟩)) (.int .i64 (c:Int)) = some (.pointer (some ⟨H.size,9 + c,none⟩)):=by
    rw [ixB,if_pos (by omega),Int.toNat_natCast,Nat.mul_one]
  have bz:=bdT0;rw [hx] at *;clear R4 oa1 oc3 p2 p4 p5 qc e3 k1 k2 k3 k4 k03 r0 r2 r3 r4 r1 hx;refine call_of Tryd.func23 rfl (Nat.le_of_ble_eq_true rfl) (hS.no rfl _ _) ?_
  rw [Tryd.ntmps23,Tryd.results23];generalize trV lst sz st en rc le rn rd = cells at *;generalize trZ = tz at *;generalize rc.getD c false = rb at *
  by_cases hcl:0 < sz ∧ st = en
  · rw [decide_eq_true hcl] at f4;clear hcl hb qcc q15
    repeat' (first | simp only [↓Zabr,↓Zabm,↓Zabo,↓Zabq,↓Zaah,↓Zabp,↓Zacj,↓Zaci,↓Zacc,↓Zaai,↓Zabz,↓Zabx,↓Zaco,↓Zaav,↓Zaar,↓Zaak,↓Zaas,↓Zaaj,↓bxOp_box,↓bxOp_build,↓Zaaq,↓Zaat,↓Zaal,↓Zaan,↓Zaao,↓Zaau,↓Zacl,↓bxPut,↓Zabj,↓Zabk,↓Zabh,↓Zacm,↓Zacn,↓bxRes_cell,↓Zacp,↓Zaaz,↓Zaax,↓Zaay,↓dstAt,↓Zaba,Zack,Zaac,Zabs,sxGuardB_ft,Zach,Zabf,List.map,List.nil_append,List.append_nil,↓reduceIte,Nat.reduceEqDiff,Nat.reduceLT,and_self,Option.map_some, *,argF,List.getD_cons_zero,List.getD_cons_succ,ldT,Zabf] | (with_reducible first | refine Zabu (by assumption) (by decide +kernel) ?_ | refine Zabt (by decide +kernel) ?_ | refine Zacb (by decide +kernel) ?_ | refine Zabw ?_))
  rw [decide_eq_false hcl] at f4;cases rb with
  | true =>
    clear hcl hb q15
    repeat' (first | simp only [↓Zabr,↓Zabm,↓Zabo,↓Zabq,↓Zaah,↓Zabp,↓Zacj,↓Zaci,↓Zacc,↓Zaai,↓Zabz,↓Zabx,↓Zaco,↓Zaav,↓Zaar,↓Zaak,↓Zaas,↓Zaaj,↓bxOp_box,↓bxOp_build,↓Zaaq,↓Zaat,↓Zaal,↓Zaan,↓Zaao,↓Zaau,↓Zacl,↓bxPut,↓Zabj,↓Zabk,↓Zabh,↓Zacm,↓Zacn,↓bxRes_cell,↓Zacp,↓Zaaz,↓Zaax,↓Zaay,↓dstAt,↓Zaba,Zack,Zaac,Zaab,Zabs,sxGuardB_ft,Zacd,Zach,Zabf,List.map,List.nil_append,List.append_nil,↓reduceIte,Nat.reduceEqDiff,Nat.reduceLT,and_self,one1,Option.bind_some,Option.map_some, *,argF,List.getD_cons_zero,List.getD_cons_succ,ldT,faO1,faT4,ldI,ldBo,Zabf,Nat.zero_add] | (with_reducible first | refine Zabu (by assumption) (by decide +kernel) ?_ | refine Zabt (by decide +kernel) ?_ | refine Zacb (by decide +kernel) ?_ | refine Zabw ?_))
  | false =>
    have hil:i < le:=by
      rcases hb with h | h | h
      · exact absurd h hcl
      · cases h
      · exact h
    clear hcl hb
    repeat' (first | simp only [↓Zabr,↓Zabm,↓Zabo,↓Zabq,↓Zaah,↓Zabp,↓Zacj,↓Zaci,↓Zacc,↓Zaai,↓Zabz,↓Zabx,↓Zaco,↓Zaav,↓Zaar,↓Zaak,↓Zaas,↓Zaaj,↓bxOp_box,↓bxOp_build,↓Zaaq,↓Zaat,↓Zaal,↓Zaan,↓Zaao,↓Zaau,↓Zacl,↓bxPut,↓Zabj,↓Zabk,↓Zabh,↓Zacm,↓Zacn,↓bxRes_cell,↓Zacp,↓Zaaz,↓Zaax,↓Zaay,↓dstAt,↓Zaba,Zack,Zaad,Zabb,Zaab,Zabs,Zacd,Zach,Zabf,List.map,List.nil_append,List.append_nil,↓reduceIte,Nat.reduceEqDiff,Nat.reduceLT,dec_T,and_self,one1,Option.bind_some,Option.map_some, *,argF,List.getD_cons_zero,List.getD_cons_succ,ldT,faO1,faT4,faT5,ldI,ldBo,Zabf,Nat.zero_add] | (with_reducible first | refine Zabu (by assumption) (by decide +kernel) ?_ | refine Zabt (by decide +kernel) ?_ | refine Zacb (by decide +kernel) ?_ | refine Zabw ?_))

set_option maxHeartbeats 8000000 in
theorem with_good (lst:List Int) (k:Nat) (st en:Int) (rc:List Bool) (le rn rd i:Int) (x:Off) (c:Nat) (H:Heap) (hL:H.low ≤ H.size) (hl:lst.length = 6) (hr:rc.length = 6) (hk:k < 6) (hc:c < 6) (hx:x.t = (c:Int)) (hcl:¬ (0 < (k:Int) ∧ st = en)) (hrb:rc.getD c false = false) (hile:le ≤ i)
    (hn:-9223372036854775808 ≤ rn * x.n ∧ rn * x.n ≤ 9223372036854775807) (hd:-9223372036854775808 ≤ rd * x.d ∧ rd * x.d ≤ 9223372036854775807) :
    ∃ H',Keep H H' ∧ Runs Tryd.prog S (.fn 23) [.agg ⟨trV lst (k:Int) st en rc le rn rd⟩,.int .i64 i,.agg ⟨x.cells⟩] H (.tuple ⟨[.agg ⟨trV (lst.set k i) ((k + 1:Nat):Int) st (c:Int) (rc.set c true) le (rn * x.n) (rd * x.d)⟩,.bool true]⟩) H':=by
  obtain ⟨res,hres⟩:∃ res,trV (lst.set k i) ((k + 1:Nat):Int) st (c:Int) (rc.set c true) le (rn * x.n) (rd * x.d) = res:=⟨_,rfl⟩;rw [hres]
  suffices h:WCall Tryd.prog S (.fn 23) [.agg ⟨trV lst (k:Int) st en rc le rn rd⟩,.int .i64 i,.agg ⟨x.cells⟩] H (fun v H' => v = .tuple ⟨[.agg ⟨res⟩,.bool true]⟩ ∧ Keep H H') by
    obtain ⟨_,H',hr,rfl,hk⟩:=h; exact ⟨H',hk,hr⟩
  obtain ⟨H1,e1,k1,z1,-,-⟩:=box1 H (trV lst (k:Int) st en rc le rn rd) 60;have oa1:Own H1 H.size 60 (trV lst (k:Int) st en rc le rn rd):=e1 ▸ Own.new H _ _;obtain ⟨H2,e2,k2,s2,-,-⟩:=box1 H1 x.cells 40;have ob2:Own H2 H1.size 40 x.cells:=e2 ▸ Own.new H1 _ _;obtain ⟨H3,e3,k3,z3,-,-⟩:=box1 H2 trZ 60;have oc3:Own H3 H2.size 60 trZ:=e3 ▸ Own.new H2 _ _;obtain ⟨H4,k4,R4⟩:=closed_runs hS lst (k:Int) st en rc le rn rd H3 hl hr;rw [decide_eq_false hcl] at R4;have f4:=R4.bx;obtain ⟨q18,-⟩:=tr_reads hl hr ((oa1.keep k2).keep k3);obtain ⟨-,q6,q7,q8,q15,q16,qc⟩:=tr_reads hl hr (((oa1.keep k2).keep k3).keep k4);have qcc:=qc c hc;rw [hrb] at qcc;have k03:=(k1.trans k2).trans k3;have w4:WS H H4 H.size H1.size H2.size (trV lst (k:Int) st en rc le rn rd) x.cells:=⟨k03.trans k4,Nat.le_refl _,by omega,by omega,((oa1.keep k2).keep k3).keep k4,(ob2.keep k3).keep k4,oc3.keep k4⟩
  have rd1:∀ {X:Heap} {cells:List Value},WS H X H.size H1.size H2.size cells x.cells → X.read H1.size 1 1 = some [.int .i64 (c:Int)]:=fun h => by
    have:=h.b.read (o:=1) (n:=1) (show 2 ≤ 4 by decide)
    rw [this,← hx]; rfl
  have rd4:∀ {X:Heap} {cells:List Value},WS H X H.size H1.size H2.size cells x.cells → X.read H1.size 0 4 = some x.cells:=fun h => h.b.read (o:=0) (n:=4) (Nat.le_refl 4)
  have t4:=rd1 w4;have ixc:aIndexAt Tryd.prog 57 (.pointer (some ⟨H.size,9,none⟩)) (.int .i64 (c:Int)) = some (.pointer (some ⟨H.size,9 + c,none⟩)):=by
    rw [ixB,if_pos (by omega),Int.toNat_natCast,Nat.mul_one]
  have ixk:aIndexAt Tryd.prog 56 (.pointer (some ⟨H.size,0,none⟩)) (.int .i64 (k:Int)) = some (.pointer (some ⟨H.size,k,none⟩)):=by
    rw [ixA,if_pos (by omega),Int.toNat_natCast,Nat.mul_one,Nat.zero_add]
  have ho:∀ {n:Nat} {lst:List Int} {sz st en:Int} {rc:List Bool} {le rn rd:Int},lst.length = 6 → rc.length = 6 → n ≤ 18 → n ≤ (trV lst sz st en rc le rn rd).length:=fun h1 h2 h3 => by rw [trV_len h1 h2]; exact h3
  obtain ⟨H5,p5,w5⟩:=w4.store infI.1 (v:=.int .i64 i) (new:=[.int .i64 i]) rfl infI.2 rfl (o:=k) (ho hl hr (show k + 1 ≤ 18 by omega))
  rw [tr_list hl hr i hk] at w5;have hl5:(lst.set k i).length = 6:=by rw [List.length_set]; exact hl
  obtain ⟨-,q6b,-⟩:=tr_reads hl5 hr w5.a;have hwk:IntKind.i64.wrap ((k:Int) + 1) = ((k + 1:Nat):Int):=IntWalk.i64_in _ (by omega)
  obtain ⟨H6,p6,w6⟩:=w5.store infI.1 (v:=.int .i64 ((k + 1:Nat):Int)) (new:=[.int .i64 ((k + 1:Nat):Int)]) rfl infI.2 rfl (o:=6) (ho hl5 hr (show 7 ≤ 18 by omega))
  rw [tr_size hl5 hr] at w6;have t6:=rd1 w6;obtain ⟨H7,p7,w7⟩:=w6.store infI.1 (v:=.int .i64 (c:Int)) (new:=[.int .i64 (c:Int)]) rfl infI.2 rfl (o:=8) (ho hl5 hr (show 9 ≤ 18 by omega))
  rw [tr_end hl5 hr] at w7;have t7:=rd1 w7;obtain ⟨H8,p8,w8⟩:=w7.store infB.1 (v:=.bool true) (new:=[.bool true]) rfl infB.2 rfl (o:=9 + c) (ho hl5 hr (show 9 + c + 1 ≤ 18 by omega))
  rw [tr_rch hl5 hr hc] at w8;have hr8:(rc.set c true).length = 6:=by rw [List.length_set]; exact hr
  obtain ⟨-,-,-,-,-,q16b,-⟩:=tr_reads hl5 hr8 w8.a;have t8:=rd4 w8;have l8:=w8.keep.low hL;obtain ⟨Xa,X9,k9,l9,f9,d9⟩:=drawn l8 (rateOf_runs hS x (H8.relow H8.size));have w9:=w8.more k9;obtain ⟨Xb,X10,k10,l10,f10,d10⟩:=drawn l9 (times_runs hS rn rd x.n x.d (X9.relow X9.size) hn hd);have w10:=w9.more k10;obtain ⟨Xc,X11,p11,q11,l11,w11⟩:=w10.storeD l10 infF.1 (v:=.agg ⟨[.int .i64 (rn * x.n),.int .i64 (rd * x.d)]⟩) (new:=[.int .i64 (rn * x.n),.int .i64 (rd * x.d)]) rfl infF.2 rfl (o:=16) (ho hl5 hr8 (show 18 ≤ 18 by omega))
  rw [tr_rate hl5 hr8,hres] at w11;have hln:res.length = 18:=by rw [← hres]; exact trV_len hl5 hr8
  have hon:ones res = true:=by rw [← hres]; exact ones_trV _ _ _ _ _ _ _ _ hl5 hr8
  have r18:=w11.a.read (o:=0) (n:=18) (by omega)
  rw [List.drop_zero,show res.take 18 = res from List.take_of_length_le (by omega)] at r18
  obtain ⟨X12,p12,o12,z12,-,kk⟩:=w11.c.store (P:=Tryd.prog) (t:=60) infT.1 (v:=.agg ⟨res⟩) (new:=res) rfl (infT.2.trans hln.symm) hon (o:=0) (by rw [hln]; exact Nat.le_refl 18)
  have k12:=kk H w11.keep (k1.trans k2).size;have hsp:splice trZ 0 res = res:=by
    unfold splice;rw [List.take_zero,List.nil_append,Nat.zero_add,List.drop_of_length_le (by rw [hln]; exact Nat.le_refl 18),List.append_nil]
  rw [hsp] at o12;have m18:=o12.read (o:=0) (n:=18) (by omega)
  rw [List.drop_zero,show res.take 18 = res from List.take_of_length_le (by omega)] at m18
  have ha:=alT H2;rw [e3] at ha;have hcs:(Value.agg ⟨trV lst (k:Int) st en rc le rn rd⟩).cells.toList = trV lst (k:Int) st en rc le rn rd:=rfl;have hcx:(Value.agg ⟨x.cells⟩).cells.toList = x.cells:=rfl;have hile':¬ i < le:=by omega
  clear R4 oa1 ob2 oc3 qc e3 k1 k2 k3 k4 k03 w4 w5 w6 w7 w8 w9 w10 w11 rd1 rd4 ho hx hcl hrb hile hn hd hres hln hon kk o12 hsp k9 k10 hl hr hl5 hr8 hk hc z12;refine call_of Tryd.func23 rfl (Nat.le_of_ble_eq_true rfl) (hS.no rfl _ _) ?_
  rw [Tryd.ntmps23,Tryd.results23];generalize trV lst (k:Int) st en rc le rn rd = cells at *;generalize trZ = tz at *
  repeat' (first | simp only [↓Zabr,↓Zabm,↓Zabo,↓Zabq,↓Zaah,↓Zabp,↓Zacj,↓Zaci,↓Zacc,↓Zaai,↓Zabz,↓Zabx,↓sxD_same,↓Zaco,↓Zaav,↓Zaar,↓Zaak,↓Zaas,↓Zaaj,↓bxOp_box,↓bxOp_build,↓Zaaq,↓Zaat,↓Zaal,↓Zaan,↓Zaao,↓Zaau,↓Zacl,↓bxPut,↓Zabj,↓Zabk,↓Zabh,↓Zacm,↓Zacn,↓bxRes_cell,↓Zacp,↓Zaaz,↓Zaax,↓Zaay,↓dstAt,↓Zaba,Zack,Zaad,Zabb,Zaab,Zabs,Zacd,Zacg,Zabf,List.map,List.nil_append,List.append_nil,↓reduceIte,Nat.reduceEqDiff,Nat.reduceLT,dec_F,and_self,Zaaa,one1,Option.bind_some,Option.map_some, *,argF,List.getD_cons_zero,List.getD_cons_succ,ldT,ldO,ldF,faO1,faT0,faT1,faT3,faT4,faT5,faT6,ldI,ldBo,Zabf,Nat.zero_add] | (with_reducible first | refine Zabu (by assumption) (by decide +kernel) ?_ | refine Zabt (by decide +kernel) ?_ | refine Zacb (by decide +kernel) ?_ | refine Zabw ?_))

theorem gains_runs (lst:List Int) (sz st en:Int) (rc:List Bool) (le rn rd:Int) (H:Heap) (hl:lst.length = 6) (hr:rc.length = 6) (h1:H.read 0 0 2 = some [.int .i64 1,.int .i64 1]) (h0:0 < H.size) (hn:0 ≤ rn ∧ rn ≤ 9223372036854775807) (hd:0 ≤ rd ∧ rd ≤ 9223372036854775807) :
    ∃ H',Keep H H' ∧ Runs Tryd.prog S (.fn 24) [.agg ⟨trV lst sz st en rc le rn rd⟩] H (.bool (decide ((0 < sz ∧ st = en) ∧ rd < rn))) H':=by
  obtain ⟨b0,hb0⟩:∃ b0,decide ((0 < sz ∧ st = en) ∧ rd < rn) = b0:=⟨_,rfl⟩;rw [hb0]
  suffices h:WCall Tryd.prog S (.fn 24) [.agg ⟨trV lst sz st en rc le rn rd⟩] H (fun v H' => v = .bool b0 ∧ Keep H H') by
    obtain ⟨_,H',hr,rfl,hk⟩:=h; exact ⟨H',hk,hr⟩
  obtain ⟨H1,e1,k1,z1,-,-⟩:=box1 H (trV lst sz st en rc le rn rd) 60;have ow:Own H1 H.size 60 (trV lst sz st en rc le rn rd):=e1 ▸ Own.new H _ _;obtain ⟨q18,-⟩:=tr_reads hl hr ow;obtain ⟨H2,k2,R2⟩:=closed_runs hS lst sz st en rc le rn rd H1 hl hr;have f2:=R2.bx;obtain ⟨-,-,-,-,-,q16,-⟩:=tr_reads hl hr (ow.keep k2);have g2:=(k1.trans k2).read h0 h1;obtain ⟨H3,k3,R3⟩:=above_runs hS rn rd 1 1 H2 hn hd (by decide) (by decide)
  have f3:=R3.bx;rw [Int.one_mul,Int.mul_one] at f3;have k02:=k1.trans k2;have k03:=k02.trans k3;have hcs:(Value.agg ⟨trV lst sz st en rc le rn rd⟩).cells.toList = trV lst sz st en rc le rn rd:=rfl;refine call_of Tryd.func24 rfl (Nat.le_of_ble_eq_true rfl) (hS.no rfl _ _) ?_
  rw [Tryd.ntmps24,Tryd.results24];clear ow R2 R3 k1 k2 k3 hn hd;generalize trV lst sz st en rc le rn rd = cells at *
  by_cases hc:0 < sz ∧ st = en
  · rw [decide_eq_true hc] at f2;have hbv:decide (rd < rn) = b0:=by rw [← hb0]; exact decide_eq_decide.2 ⟨fun h => ⟨hc,h⟩,fun h => h.2⟩
    clear hb0 hc
    repeat' simp only [↓Zabo,↓Zabq,↓Zabp,↓Zacj,↓Zaci,↓Zaco,↓Zaav,↓Zaar,↓Zaak,↓Zaas,↓bxOp_box,↓Zaaq,↓Zaan,↓Zaau,↓bxPut,↓Zabj,↓Zabh,↓Zacm,↓Zacn,↓Zacp,↓Zaaz,↓Zaax,↓ev_global,↓Zaay,↓dstAt,↓Zaba,Zack,Zaac,Zabs,sxGuardB_tt,Zabe,List.map,List.nil_append,List.append_nil,↓reduceIte,Nat.reduceEqDiff,Nat.reduceLT,and_self,Option.map_some, *,argF,List.getD_cons_zero,ldT,ldF,faT6,Nat.zero_add]
  · rw [decide_eq_false hc] at f2;have hbv:b0 = false:=by rw [← hb0]; exact decide_eq_false fun h => hc h.1
    subst hbv;clear hb0 hc f3
    repeat' simp only [↓Zabo,↓Zabq,↓Zabp,↓Zacj,↓Zaci,↓Zaco,↓Zaav,↓Zaar,↓Zaak,↓Zaas,↓bxOp_box,↓Zaaq,↓Zaan,↓Zaau,↓bxPut,↓Zabj,↓Zabh,↓Zacm,↓Zacn,↓Zacp,↓Zaaz,↓Zaax,↓ev_global,↓Zaay,↓dstAt,↓Zaba,Zack,Zaab,Zabs,sxGuardB_tf,Zabe,List.map,List.nil_append,List.append_nil,↓reduceIte,Nat.reduceEqDiff,Nat.reduceLT,and_self,Option.map_some, *,argF,List.getD_cons_zero,ldT]
end Go.Proofs.YtcmaipijkjillaaDoor
