/- Which leg can follow which. -/
import Derived.Test.YteechkbnccpicaaSEI
set_option linter.unusedVariables false
set_option linter.unusedSimpArgs false
set_option linter.unusedSectionVars false

namespace Go.Proofs.Yteechkbnccpicaa
open Go Go.AM
set_option maxRecDepth 10000

def joinB (ch:Int) (x y:Lg):Bool:=decide (y.f = x.t ∧ (if x.l = y.l then x.a else x.a + ch) ≤ y.d)
def Fit (ch:Int) (x:Lg):Prop:=0 ≤ x.a + ch ∧ x.a + ch ≤ 20000

variable {S:AM.Sys} (hS:Only S 11)
include hS

theorem isChange_runs (ls:List Lg) (a:Option Addr) (c r o:Nat) (ch:Int) (v:Value) (H:Heap) (hL:H.low ≤ H.size) (hl:SlG H (.slice a ls.length c) ls r o) (i j:Nat) (hi:i < ls.length) (hj:j < ls.length) :
    ∃ H',Keep H H' ∧ Runs Try.prog S (.fn 81) [tv a ls.length c ch v,.int .i64 (i:Int),.int .i64 (j:Int)] H (.bool (decide (¬ (ls.getD i default).l = (ls.getD j default).l))) H':=by
  suffices h:WCall Try.prog S (.fn 81) [tv a ls.length c ch v,.int .i64 (i:Int),.int .i64 (j:Int)] H (fun u H' => u = .bool (decide (¬ (ls.getD i default).l = (ls.getD j default).l)) ∧ Keep H H') by
    obtain ⟨_,H',hr,rfl,hk⟩:=h; exact ⟨H',hk,hr⟩
  obtain ⟨H1,e1,hK1,r3,r0,r1,r2⟩:=boxT H a ls.length c ch v;obtain ⟨q,hix,_,_,_,_,_,g4⟩:=SlG_at (hl.keep hK1) hi;obtain ⟨q',hix',_,_,_,_,_,g4'⟩:=SlG_at (hl.keep hK1) hj;have hL1:=hK1.low hL;clear hl;refine Zaba Try.func81 rfl (Nat.le_of_ble_eq_true rfl) (hS.no rfl _ _) ?_
  rw [Try.ntmps81,Try.results81]
  repeat' (first | simp only [↓Zabv,↓Zabx,↓Zabz,↓Zaby,↓Zacw,↓Zacv,↓Zaco,↓Zaak,↓Zacj,↓sxDL_assign,↓Zaci,↓Zace,↓Zacg,↓Zach,↓Zacn,↓Zadb,↓Zaau,↓Zaam,↓bxOp_box,↓Zaat,↓Zaan,↓Zaaq,↓Zaar,↓bxPut,↓Zabs,↓Zabq,↓Zacz,↓Zada,↓Zadc,↓Zabg,↓Zabe,Zacx,Zaae,Zabi,Zabm,↓reduceIte,Nat.reduceEqDiff,Nat.reduceLT,and_self,Zaab,Nat.add_zero,one1,Option.bind_some, *,argF,List.getD_cons_zero,List.getD_cons_succ,Zabb,tv,faT0,faG4,ldLs,ldC,one1] | (with_reducible first | refine Zacd (by assumption) (by decide +kernel) ?_ | refine Zacc (by decide +kernel) ?_ | refine Zacm (by decide +kernel) ?_ | refine Zacf ?_))

theorem begins_runs (fr to at' by':Int) (x:Lg) (H:Heap):∃ H',Keep H H' ∧ Runs Try.prog S (.fn 63) [wv fr to at' by',.agg ⟨lc x⟩] H (.bool (decide (x.f = fr ∧ at' ≤ x.d))) H':=by
  suffices h:WCall Try.prog S (.fn 63) [wv fr to at' by',.agg ⟨lc x⟩] H (fun u H' => u = .bool (decide (x.f = fr ∧ at' ≤ x.d)) ∧ Keep H H') by
    obtain ⟨_,H',hr,rfl,hk⟩:=h; exact ⟨H',hk,hr⟩
  obtain ⟨H1,e1,hK1,w4,w0,w1,w2,w3⟩:=boxW H fr to at' by'
  obtain ⟨H2,e2,hK2,g5,g0,g1,g2,g3,g4⟩:=boxG H1 x;have hK:=hK1.trans hK2;have hz:H.size < H1.size:=by rw [← e1,size_new]; omega
  have v0:=hK2.read hz w0;have v2:=hK2.read hz w2;clear hz;clear w0 w1 w2 w3 w4 g5;have hgo:∃ b,b = decide (x.f = fr ∧ at' ≤ x.d):=⟨_,rfl⟩;obtain ⟨b,hb⟩:=hgo;rw [← hb];refine Zaba Try.func63 rfl (Nat.le_of_ble_eq_true rfl) (hS.no rfl _ _) ?_
  rw [Try.ntmps63,Try.results63]
  by_cases c1:x.f = fr
  · by_cases c2:at' ≤ x.d
    · have hb:b = true:=by rw [hb]; exact decide_eq_true ⟨c1,c2⟩
      repeat' simp only [↓Zabx,↓Zabz,↓Zaby,↓Zacw,↓Zacv,↓Zadb,↓Zaaz,↓Zaau,↓Zaam,↓Zaav,↓bxOp_box,↓Zaat,↓Zaan,↓Zaaq,↓bxPut,↓Zabs,↓Zabq,↓Zacz,↓Zada,↓Zadc,↓Zabg,↓Zabe,↓dstAt,↓Zabh,Zacx,Zaae,Zabi,Zaad,Zacs,Zabm,↓reduceIte,Nat.reduceEqDiff,Nat.reduceLT,dec_T,and_self,Nat.add_zero,one1,Option.bind_some, *,argF,List.getD_cons_zero,List.getD_cons_succ,Zabb,wv,faW0,faW2,faG0,faG2,ldC,one1]
    · have hb:b = false:=by rw [hb]; exact decide_eq_false fun h => c2 h.2
      repeat' simp only [↓Zabx,↓Zabz,↓Zaby,↓Zacw,↓Zacv,↓Zadb,↓Zaaz,↓Zaau,↓Zaam,↓Zaav,↓bxOp_box,↓Zaat,↓Zaan,↓Zaaq,↓bxPut,↓Zabs,↓Zabq,↓Zacz,↓Zada,↓Zadc,↓Zabg,↓Zabe,↓dstAt,↓Zabh,Zacx,Zaae,Zabi,Zaad,Zacs,Zabm,↓reduceIte,Nat.reduceEqDiff,Nat.reduceLT,dec_T,dec_F,and_false,and_self,Nat.add_zero,one1,Option.bind_some, *,argF,List.getD_cons_zero,List.getD_cons_succ,Zabb,wv,faW0,faW2,faG0,faG2,ldC,one1]
  · have hb:b = false:=by rw [hb]; exact decide_eq_false fun h => c1 h.1
    repeat' simp only [↓Zabx,↓Zabz,↓Zaby,↓Zacw,↓Zacv,↓Zadb,↓Zaaz,↓Zaau,↓Zaam,↓Zaav,↓bxOp_box,↓Zaat,↓Zaan,↓Zaaq,↓bxPut,↓Zabs,↓Zabq,↓Zacz,↓Zada,↓Zadc,↓Zabg,↓Zabe,↓dstAt,↓Zabh,Zacx,Zaae,Zabi,Zaac,Zacr,Zabm,↓reduceIte,Nat.reduceEqDiff,Nat.reduceLT,dec_F,false_and,and_self,Nat.add_zero,one1,Option.bind_some, *,argF,List.getD_cons_zero,List.getD_cons_succ,Zabb,wv,faW0,faG0,ldC,one1]

theorem ends_runs (fr to at' by':Int) (x:Lg) (H:Heap):∃ H',Keep H H' ∧ Runs Try.prog S (.fn 70) [wv fr to at' by',.agg ⟨lc x⟩] H (.bool (decide (x.t = to ∧ x.a ≤ by'))) H':=by
  suffices h:WCall Try.prog S (.fn 70) [wv fr to at' by',.agg ⟨lc x⟩] H (fun u H' => u = .bool (decide (x.t = to ∧ x.a ≤ by')) ∧ Keep H H') by
    obtain ⟨_,H',hr,rfl,hk⟩:=h; exact ⟨H',hk,hr⟩
  obtain ⟨H1,e1,hK1,w4,w0,w1,w2,w3⟩:=boxW H fr to at' by'
  obtain ⟨H2,e2,hK2,g5,g0,g1,g2,g3,g4⟩:=boxG H1 x;have hK:=hK1.trans hK2;have hz:H.size < H1.size:=by rw [← e1,size_new]; omega
  have v1:=hK2.read hz w1;have v3:=hK2.read hz w3;clear hz;clear w0 w1 w2 w3 w4 g5;have hgo:∃ b,b = decide (x.t = to ∧ x.a ≤ by'):=⟨_,rfl⟩
  obtain ⟨b,hb⟩:=hgo;rw [← hb];refine Zaba Try.func70 rfl (Nat.le_of_ble_eq_true rfl) (hS.no rfl _ _) ?_
  rw [Try.ntmps70,Try.results70]
  by_cases c1:x.t = to
  · by_cases c2:x.a ≤ by'
    · have hb:b = true:=by rw [hb]; exact decide_eq_true ⟨c1,c2⟩
      repeat' simp only [↓Zabx,↓Zabz,↓Zaby,↓Zacw,↓Zacv,↓Zadb,↓Zaaz,↓Zaau,↓Zaam,↓Zaav,↓bxOp_box,↓Zaat,↓Zaan,↓Zaaq,↓bxPut,↓Zabs,↓Zabq,↓Zacz,↓Zada,↓Zadc,↓Zabg,↓Zabe,↓dstAt,↓Zabh,Zacx,Zaae,Zabi,Zaad,Zacs,Zabm,↓reduceIte,Nat.reduceEqDiff,Nat.reduceLT,dec_T,and_self,one1,Option.bind_some, *,argF,List.getD_cons_zero,List.getD_cons_succ,Zabb,wv,faW1,faW3,faG1,faG3,ldC,one1]
    · have hb:b = false:=by rw [hb]; exact decide_eq_false fun h => c2 h.2
      repeat' simp only [↓Zabx,↓Zabz,↓Zaby,↓Zacw,↓Zacv,↓Zadb,↓Zaaz,↓Zaau,↓Zaam,↓Zaav,↓bxOp_box,↓Zaat,↓Zaan,↓Zaaq,↓bxPut,↓Zabs,↓Zabq,↓Zacz,↓Zada,↓Zadc,↓Zabg,↓Zabe,↓dstAt,↓Zabh,Zacx,Zaae,Zabi,Zaad,Zacs,Zabm,↓reduceIte,Nat.reduceEqDiff,Nat.reduceLT,dec_T,dec_F,and_false,and_self,one1,Option.bind_some, *,argF,List.getD_cons_zero,List.getD_cons_succ,Zabb,wv,faW1,faW3,faG1,faG3,ldC,one1]
  · have hb:b = false:=by rw [hb]; exact decide_eq_false fun h => c1 h.1
    repeat' simp only [↓Zabx,↓Zabz,↓Zaby,↓Zacw,↓Zacv,↓Zadb,↓Zaaz,↓Zaau,↓Zaam,↓Zaav,↓bxOp_box,↓Zaat,↓Zaan,↓Zaaq,↓bxPut,↓Zabs,↓Zabq,↓Zacz,↓Zada,↓Zadc,↓Zabg,↓Zabe,↓dstAt,↓Zabh,Zacx,Zaae,Zabi,Zaac,Zacr,Zabm,↓reduceIte,Nat.reduceEqDiff,Nat.reduceLT,dec_F,false_and,and_self,one1,Option.bind_some, *,argF,List.getD_cons_zero,List.getD_cons_succ,Zabb,wv,faW1,faG1,ldC,one1]

theorem follows_runs (ls:List Lg) (a:Option Addr) (c r o:Nat) (ch:Int) (v:Value) (H:Heap) (hL:H.low ≤ H.size) (hl:SlG H (.slice a ls.length c) ls r o) (i j:Nat) (hi:i < ls.length) (hj:j < ls.length) (hf:Fit ch (ls.getD i default)) :
    ∃ H',Keep H H' ∧ Runs Try.prog S (.fn 68) [tv a ls.length c ch v,.int .i64 (i:Int),.int .i64 (j:Int)] H (.bool (joinB ch (ls.getD i default) (ls.getD j default))) H':=by
  suffices h:WCall Try.prog S (.fn 68) [tv a ls.length c ch v,.int .i64 (i:Int),.int .i64 (j:Int)] H (fun u H' => u = .bool (joinB ch (ls.getD i default) (ls.getD j default)) ∧ Keep H H') by
    obtain ⟨_,H',hr,rfl,hk⟩:=h; exact ⟨H',hk,hr⟩
  obtain ⟨H1,e1,hK1,r3,r0,r1,r2⟩:=boxT H a ls.length c ch v;obtain ⟨H2,hK2,hR⟩:=isChange_runs hS ls a c r o ch v H1 (hK1.low hL) (hl.keep hK1) i j hi hj;have hw:IntKind.i64.wrap ((ls.getD i default).a + ch) = (ls.getD i default).a + ch:=IntWalk.i64_in _ (by have:=hf.1; have:=hf.2; omega)
  obtain ⟨q,hix,_,_,g1,_,g3,_⟩:=SlG_at (hl.keep hK1) hi;have hK12:=hK1.trans hK2;obtain ⟨p,hix',_,_,p1,_,p3,_⟩:=SlG_at (hl.keep hK12) hi;have hqp:q = p:=by have:=hix.symm.trans hix'; simpa using this
  subst hqp;clear hix';obtain ⟨q',hjx',_,k0,_,k2,_,_⟩:=SlG_at (hl.keep hK12) hj;have hL2:=hK12.low hL;have hz:H.size < H1.size:=by rw [← e1,size_new]; omega
  have s0:=hK2.read hz r0;have s1:=hK2.read hz r1;have f1:=hR.bx;unfold tv at f1;clear hz hR r2;have hgo:∃ b,b = joinB ch (ls.getD i default) (ls.getD j default):=⟨_,rfl⟩;obtain ⟨b,hb⟩:=hgo;rw [← hb];unfold joinB at hb;obtain ⟨x,hx⟩:∃ x,x = ls.getD i default:=⟨_,rfl⟩;obtain ⟨y,hy⟩:∃ y,y = ls.getD j default:=⟨_,rfl⟩;rw [← hx] at f1 hw g1 g3 p1 p3 hb;rw [← hy] at f1 k0 k2 hb;clear hf hl hx hy;unfold tv;refine Zaba Try.func68 rfl (Nat.le_of_ble_eq_true rfl) (hS.no rfl _ _) ?_
  rw [Try.ntmps68,Try.results68]
  by_cases c1:x.l = y.l
  · rw [if_pos c1] at hb;have dn:decide (¬ x.l = y.l) = false:=decide_eq_false fun h => h c1
    rw [dn] at f1
    by_cases c2:y.f = x.t
    · by_cases c3:x.a ≤ y.d
      · have hb:b = true:=by rw [hb]; exact decide_eq_true ⟨c2,c3⟩
        repeat' (first | simp only [↓Zaca,↓Zabv,↓Zabx,↓Zabz,↓Zaai,↓Zaby,↓Zacw,↓Zacv,↓Zaco,↓Zaak,↓Zacj,↓sxDL_assign,↓Zack,↓Zaci,↓Zace,↓Zacg,↓Zach,↓Zacn,↓Zadb,↓Zaaz,↓Zaau,↓Zaam,↓Zaav,↓bxOp_box,↓Zaat,↓Zaan,↓Zaaq,↓Zaar,↓Zaay,↓bxPut,↓Zabs,↓Zabq,↓Zacz,↓Zada,↓Zadc,↓Zabg,↓Zabe,↓Zabf,↓dstAt,↓Zabh,Zacx,Zaae,Zabi,Zaad,Zacb,Zacs,Zact,Zabm,List.map,List.nil_append,List.append_nil,↓reduceIte,Nat.reduceEqDiff,Nat.reduceLT,dec_T,and_self,Zaab,Nat.add_zero,one1,Option.bind_some,Option.map_some, *,argF,List.getD_cons_zero,List.getD_cons_succ,Zabb,faT0,faG0,faG1,faG2,faG3,ldLs,ldC,ldTt,one1] | (with_reducible first | refine Zacd (by assumption) (by decide +kernel) ?_ | refine Zacc (by decide +kernel) ?_ | refine Zacm (by decide +kernel) ?_ | refine Zacf ?_))
      · have hb:b = false:=by rw [hb]; exact decide_eq_false fun h => c3 h.2
        repeat' (first | simp only [↓Zaca,↓Zabv,↓Zabx,↓Zabz,↓Zaai,↓Zaby,↓Zacw,↓Zacv,↓Zaco,↓Zaak,↓Zacj,↓sxDL_assign,↓Zack,↓Zaci,↓Zace,↓Zacg,↓Zach,↓Zacn,↓Zadb,↓Zaaz,↓Zaau,↓Zaam,↓Zaav,↓bxOp_box,↓Zaat,↓Zaan,↓Zaaq,↓Zaar,↓Zaay,↓bxPut,↓Zabs,↓Zabq,↓Zacz,↓Zada,↓Zadc,↓Zabg,↓Zabe,↓Zabf,↓dstAt,↓Zabh,Zacx,Zaae,Zabi,Zaad,Zacb,Zacs,Zact,Zabm,List.map,List.nil_append,List.append_nil,↓reduceIte,Nat.reduceEqDiff,Nat.reduceLT,dec_T,dec_F,and_false,and_self,Zaab,Nat.add_zero,one1,Option.bind_some,Option.map_some, *,argF,List.getD_cons_zero,List.getD_cons_succ,Zabb,faT0,faG0,faG1,faG2,faG3,ldLs,ldC,ldTt,one1] | (with_reducible first | refine Zacd (by assumption) (by decide +kernel) ?_ | refine Zacc (by decide +kernel) ?_ | refine Zacm (by decide +kernel) ?_ | refine Zacf ?_))
    · have hb:b = false:=by rw [hb]; exact decide_eq_false fun h => c2 h.1
      repeat' (first | simp only [↓Zaca,↓Zabv,↓Zabx,↓Zabz,↓Zaai,↓Zaby,↓Zacw,↓Zacv,↓Zaco,↓Zaak,↓Zacj,↓sxDL_assign,↓Zack,↓Zaci,↓Zace,↓Zacg,↓Zach,↓Zacn,↓Zadb,↓Zaaz,↓Zaau,↓Zaam,↓Zaav,↓bxOp_box,↓Zaat,↓Zaan,↓Zaaq,↓Zaar,↓Zaay,↓bxPut,↓Zabs,↓Zabq,↓Zacz,↓Zada,↓Zadc,↓Zabg,↓Zabe,↓Zabf,↓dstAt,↓Zabh,Zacx,Zaae,Zabi,Zaac,Zacb,Zacr,Zact,Zabm,List.map,List.nil_append,List.append_nil,↓reduceIte,Nat.reduceEqDiff,Nat.reduceLT,dec_F,false_and,and_self,Zaab,Nat.add_zero,one1,Option.bind_some,Option.map_some, *,argF,List.getD_cons_zero,List.getD_cons_succ,Zabb,faT0,faG0,faG1,faG3,ldLs,ldC,ldTt,one1] | (with_reducible first | refine Zacd (by assumption) (by decide +kernel) ?_ | refine Zacc (by decide +kernel) ?_ | refine Zacm (by decide +kernel) ?_ | refine Zacf ?_))
  · rw [if_neg c1] at hb;have dn:decide (¬ x.l = y.l) = true:=decide_eq_true c1;rw [dn] at f1
    by_cases c2:y.f = x.t
    · by_cases c3:x.a + ch ≤ y.d
      · have hb:b = true:=by rw [hb]; exact decide_eq_true ⟨c2,c3⟩
        repeat' (first | simp only [↓Zaca,↓Zabv,↓Zabx,↓Zabz,↓Zaai,↓Zaby,↓Zacw,↓Zacv,↓Zaco,↓Zaak,↓Zacj,↓sxDL_assign,↓Zack,↓Zaci,↓Zace,↓Zacg,↓Zach,↓Zacn,↓Zadb,↓Zaaz,↓Zaau,↓Zaam,↓Zaav,↓bxOp_box,↓Zaat,↓Zaan,↓Zaaq,↓Zaar,↓Zaay,↓bxPut,↓Zabs,↓Zabq,↓Zacz,↓Zada,↓Zadc,↓Zabg,↓Zabe,↓Zabf,↓dstAt,↓Zabh,Zacx,Zaae,Zabi,Zaad,Zacb,Zacs,Zacu,Zabm,List.map,List.nil_append,List.append_nil,↓reduceIte,Nat.reduceEqDiff,Nat.reduceLT,dec_T,and_self,Zaab,Nat.add_zero,one1,Option.bind_some,Option.map_some, *,argF,List.getD_cons_zero,List.getD_cons_succ,Zabb,faT0,faT1,faG0,faG1,faG2,faG3,ldLs,ldC,ldTt,one1] | (with_reducible first | refine Zacd (by assumption) (by decide +kernel) ?_ | refine Zacc (by decide +kernel) ?_ | refine Zacm (by decide +kernel) ?_ | refine Zacf ?_))
      · have hb:b = false:=by rw [hb]; exact decide_eq_false fun h => c3 h.2
        repeat' (first | simp only [↓Zaca,↓Zabv,↓Zabx,↓Zabz,↓Zaai,↓Zaby,↓Zacw,↓Zacv,↓Zaco,↓Zaak,↓Zacj,↓sxDL_assign,↓Zack,↓Zaci,↓Zace,↓Zacg,↓Zach,↓Zacn,↓Zadb,↓Zaaz,↓Zaau,↓Zaam,↓Zaav,↓bxOp_box,↓Zaat,↓Zaan,↓Zaaq,↓Zaar,↓Zaay,↓bxPut,↓Zabs,↓Zabq,↓Zacz,↓Zada,↓Zadc,↓Zabg,↓Zabe,↓Zabf,↓dstAt,↓Zabh,Zacx,Zaae,Zabi,Zaad,Zacb,Zacs,Zacu,Zabm,List.map,List.nil_append,List.append_nil,↓reduceIte,Nat.reduceEqDiff,Nat.reduceLT,dec_T,dec_F,and_false,and_self,Zaab,Nat.add_zero,one1,Option.bind_some,Option.map_some, *,argF,List.getD_cons_zero,List.getD_cons_succ,Zabb,faT0,faT1,faG0,faG1,faG2,faG3,ldLs,ldC,ldTt,one1] | (with_reducible first | refine Zacd (by assumption) (by decide +kernel) ?_ | refine Zacc (by decide +kernel) ?_ | refine Zacm (by decide +kernel) ?_ | refine Zacf ?_))
    · have hb:b = false:=by rw [hb]; exact decide_eq_false fun h => c2 h.1
      repeat' (first | simp only [↓Zaca,↓Zabv,↓Zabx,↓Zabz,↓Zaai,↓Zaby,↓Zacw,↓Zacv,↓Zaco,↓Zaak,↓Zacj,↓sxDL_assign,↓Zack,↓Zaci,↓Zace,↓Zacg,↓Zach,↓Zacn,↓Zadb,↓Zaaz,↓Zaau,↓Zaam,↓Zaav,↓bxOp_box,↓Zaat,↓Zaan,↓Zaaq,↓Zaar,↓Zaay,↓bxPut,↓Zabs,↓Zabq,↓Zacz,↓Zada,↓Zadc,↓Zabg,↓Zabe,↓Zabf,↓dstAt,↓Zabh,Zacx,Zaae,Zabi,Zaac,Zacb,Zacr,Zacu,Zabm,List.map,List.nil_append,List.append_nil,↓reduceIte,Nat.reduceEqDiff,Nat.reduceLT,dec_F,false_and,and_self,Zaab,Nat.add_zero,one1,Option.bind_some,Option.map_some, *,argF,List.getD_cons_zero,List.getD_cons_succ,Zabb,faT0,faT1,faG0,faG1,faG3,ldLs,ldC,ldTt,one1] | (with_reducible first | refine Zacd (by assumption) (by decide +kernel) ?_ | refine Zacc (by decide +kernel) ?_ | refine Zacm (by decide +kernel) ?_ | refine Zacf ?_))
end Go.Proofs.Yteechkbnccpicaa
