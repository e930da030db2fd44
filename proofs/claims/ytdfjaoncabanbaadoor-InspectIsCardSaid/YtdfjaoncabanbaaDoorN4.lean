/- The sum and the difference of words; which ones are less. -/
import Derived.Test.YtdfjaoncabanbaaDoorN3
set_option linter.unusedVariables false
set_option linter.unusedSimpArgs false
set_option linter.unusedSectionVars false

namespace Go.Proofs.YtdfjaoncabanbaaDoor
open Go Go.AM
set_option maxRecDepth 10000

theorem wtake_all {l:List Int} {n:Nat} (h:l.length ≤ n):W.val (l.take n) = W.val l:=by rw [List.take_of_length_le h]
theorem wtake_succ (l:List Int) (n:Nat):W.val (l.take (n + 1)) = W.val (l.take n) + 4294967296 ^ n * l.getD n 0:=by
  by_cases h:n < l.length
  · exact W.val_split h
  · rw [wtake_all (by omega),wtake_all (by omega),List.getD_eq_getElem?_getD,List.getElem?_eq_none (by omega)]
    simp
theorem wadd_step {P x s c V W:Int} (hs:s = x + c) (hi:V + P * c = W):(V + P * (s % 4294967296)) + P * 4294967296 * (s / 4294967296) = W + P * x:=by
  have h1:4294967296 * (s / 4294967296) + s % 4294967296 = s:=Int.mul_ediv_add_emod s 4294967296;have h2:P * (s % 4294967296) + P * 4294967296 * (s / 4294967296) = P * x + P * c:=by
    rw [Int.mul_assoc,← Int.mul_add,← Int.mul_add];congr 1;omega
  omega
theorem wlt_pow {l:List Int} (h:W.Digs l) (n:Nat) (hl:l.length ≤ n):W.val l < 4294967296 ^ n:=Int.lt_of_lt_of_le h.lt (W.pow_mono hl)
def wless (a b:List Int):Nat → Bool
  | 0 => false
  | n + 1 => if a.getD n 0 = b.getD n 0 then wless a b n else decide (a.getD n 0 < b.getD n 0)
theorem wless_spec {a b:List Int} (ha:W.Digs a) (hb:W.Digs b):∀ n,wless a b n = decide (W.val (a.take n) < W.val (b.take n))
  | 0 => by simp [wless,W.val]
  | n + 1 => by
    have ih:=wless_spec ha hb n;have h1:=ha.getD n;have h2:=hb.getD n;have h3:W.val (a.take n) < 4294967296 ^ n:=wlt_pow (W.take_digs ha n) n (by rw [List.length_take]; omega)
    have h4:W.val (b.take n) < 4294967296 ^ n:=wlt_pow (W.take_digs hb n) n (by rw [List.length_take]; omega)
    have h5:=(W.take_digs ha n).nonneg;have h6:=(W.take_digs hb n).nonneg;have hp:(0:Int) < 4294967296 ^ n:=W.pow_pos' n;rw [wtake_succ,wtake_succ];unfold wless
    by_cases h:a.getD n 0 = b.getD n 0
    · rw [if_pos h,ih,h];exact decide_eq_decide.2 (by omega)
    · rw [if_neg h];refine decide_eq_decide.2 ⟨fun h7 => W.dig_gap hp h5 h3 h6 h4 h7,fun h7 => ?_⟩
      rcases Int.lt_or_le (a.getD n 0) (b.getD n 0) with h8 | h8
      · exact h8
      · have:=W.dig_gap hp h6 h4 h5 h3 (show b.getD n 0 < a.getD n 0 by omega)
        omega

variable {S:AM.Sys} (hS:Only S 5)
include hS

theorem isLess_runs (v1 v2:Value) (a b:List Int) (r1 o1 r2 o2:Nat) (H:Heap) (h1:SlI .u32 H v1 a r1 o1) (h2:SlI .u32 H v2 b r2 o2) (ha:W.Digs a) (hb:W.Digs b) (hsa:a.length ≤ 1000) (hsb:b.length ≤ 1000) :
    Runs Tryd.prog S (.fn 76) [v1,v2] H (.bool (decide (W.val a < W.val b))) H:=by
  have hsp:=wless_spec ha hb (max a.length b.length);rw [wtake_all (by omega),wtake_all (by omega)] at hsp
  rw [← hsp]
  suffices h:WCall Tryd.prog S (.fn 76) [v1,v2] H (fun v H' => v = .bool (wless a b (max a.length b.length)) ∧ H' = H) by
    obtain ⟨_,_,hr,rfl,rfl⟩:=h; exact hr
  clear hsp;obtain ⟨a1,c1,rfl⟩:=h1.v0;obtain ⟨a2,c2,rfl⟩:=h2.v0;obtain ⟨M,hM⟩:∃ M,max a.length b.length = M:=⟨_,rfl⟩;rw [hM];have hmx:(if (a.length:Int) < (b.length:Int) then (b.length:Int) else (a.length:Int)) = (M:Int):=by split <;> omega
  have hwm:IntKind.i64.wrap ((M:Int) - 1) = (M:Int) - 1:=IntWalk.i64_in _ (by omega)
  have hM2:M ≤ 1000:=by omega
  refine Zaaw Tryd.func76 rfl (Nat.le_of_ble_eq_true rfl) (hS.no rfl _ _) ?_
  rw [Tryd.ntmps76,Tryd.results76];obtain ⟨b0,hb0⟩:∃ b0,wless a b M = b0:=⟨_,rfl⟩;rw [hb0];clear hM
  repeat' simp only [↓Zabo,↓Zabq,↓Zaah,↓Zabl,↓Zabp,↓Zaci,↓Zach,↓Zacn,↓Zaar,↓Zaaj,↓Zaak,↓Zaap,↓bxOp_max,↓bxPut,↓Zabj,↓Zabh,↓Zacl,↓Zacm,↓Zaco,↓Zaba,↓Zaay,Zacj,mm_max,Zaad,Zabc,Zabf,↓reduceIte,Nat.reduceEqDiff,Nat.reduceLT, *,argF,List.getD_cons_zero,List.getD_cons_succ,lenU]
  refine sxL_of (fun m ρ X => m ≤ M ∧ wless a b m = b0 ∧ X = H ∧ ρ 0 = .slice a1 a.length c1 ∧ ρ 1 = .slice a2 b.length c2 ∧ ρ 5 = .int .i64 ((m:Int) - 1))
    ⟨Nat.le_refl _,hb0,rfl,rfl,rfl,rfl⟩ ?_
  clear hmx hwm hb0;rintro m ρ X ⟨hm,hl,rfl,e0,e1,e5⟩;cases m with
  | zero =>
    have h0:¬ (0:Int) ≤ ((0:Nat):Int) - 1:=by omega
    have hb:b0 = false:=hl.symm;subst hb;clear hl h1 h2
    repeat' simp only [↓Zabr,↓Zabo,↓Zabq,↓Zaag,↓Zabl,↓Zabn,↓Zabp,↓Zaci,↓Zach,↓Zacn,↓Zaar,↓Zaaj,↓Zaak,↓Zaau,↓bxPut,↓Zabj,↓Zabi,↓Zabk,↓Zaaf,↓blockQ_ret,↓Zaae,↓Zabe,↓Zabd,↓loopQ_ret,↓Zabh,↓Zacl,↓Zacm,↓Zaco,↓Zaba,↓Zaay,↓Zaaz,Zacj,Zaad,Zabc,Zabs,Zacf,Zabf,List.nil_append,↓reduceIte,Nat.reduceLT,dec_F,and_self, *]
  | succ m =>
    have e5':ρ 5 = .int .i64 (m:Int):=by rw [e5]; congr 1; omega
    clear e5;have h0:(0:Int) ≤ (m:Int):=by omega
    have f1:=(wordAt_runs hS _ a r1 o1 X m h1 (by omega)).bx
    have f2:=(wordAt_runs hS _ b r2 o2 X m h2 (by omega)).bx
    have hw:IntKind.i64.wrap ((m:Int) - 1) = (m:Int) - 1:=IntWalk.i64_in _ (by omega)
    unfold wless at hl;generalize a.getD m 0 = x at *;generalize b.getD m 0 = y at *;clear h1 h2
    by_cases hxy:x = y
    · rw [if_pos hxy] at hl;subst hxy
      repeat' simp only [↓Zabr,↓Zabo,↓Zabq,↓Zaag,↓Zabl,↓Zabn,↓Zabp,↓Zaci,↓Zach,↓Zacn,↓Zaar,↓Zaaj,↓Zaak,↓Zaau,↓bxPut,↓Zabj,↓Zabi,↓Zabk,↓Zaaf,↓blockQ_ret,↓Zaae,↓Zabe,↓Zabd,↓loopQ_ret,↓Zabh,↓Zacl,↓Zacm,↓Zaco,↓Zaba,↓Zaay,↓Zaaz,Zacj,Zaad,Zabc,Zabs,Zacg,Zacf,Zabf,List.map,List.nil_append,List.append_nil,↓reduceIte,Nat.reduceEqDiff,Nat.reduceLT,dec_T,dec_F,true_and,not_true_eq_false, *]
      exact ⟨m,by omega,by omega,hl,rfl⟩
    · rw [if_neg hxy] at hl;subst hl
      repeat' simp only [↓Zabr,↓Zabo,↓Zabq,↓Zaag,↓Zabl,↓Zabn,↓Zabp,↓Zaci,↓Zach,↓Zacn,↓Zaar,↓Zaaj,↓Zaak,↓Zaau,↓bxPut,↓Zabj,↓Zabi,↓Zabk,↓Zaaf,↓blockQ_ret,↓Zaae,↓Zabe,↓Zabd,↓loopQ_ret,↓Zabh,↓Zacl,↓Zacm,↓Zaco,↓Zaba,↓Zaay,↓Zaaz,Zacj,Zaad,Zabc,Zabs,Zacg,Zabf,List.map,List.nil_append,List.append_nil,↓reduceIte,Nat.reduceEqDiff,Nat.reduceLT,dec_T,and_self,not_false_eq_true, *]

set_option maxHeartbeats 4000000 in
theorem added_runs (v1 v2:Value) (a b:List Int) (r1 o1 r2 o2:Nat) (H:Heap) (hL:H.low ≤ H.size) (h1:SlI .u32 H v1 a r1 o1) (h2:SlI .u32 H v2 b r2 o2) (ha:W.Digs a) (hb:W.Digs b) (hsa:a.length ≤ 1000) (hsb:b.length ≤ 1000) :
    ∃ H' out,Runs Tryd.prog S (.fn 75) [v1,v2] H (.slice (some ⟨H.size,0,none⟩) out.length out.length) H' ∧ Keep H H' ∧ Own H' H.size 96 (out.map fun z => .int .u32 z) ∧ W.Digs out ∧ W.val out = W.val a + W.val b ∧ out.length = max a.length b.length + 1:=by
  suffices h:WCall Tryd.prog S (.fn 75) [v1,v2] H (fun v H' => ∃ out,v = .slice (some ⟨H.size,0,none⟩) out.length out.length ∧ Keep H H' ∧ Own H' H.size 96 (out.map fun z => .int .u32 z) ∧ W.Digs out ∧ W.val out = W.val a + W.val b ∧ out.length = max a.length b.length + 1) by
    obtain ⟨_,H',hr,out,rfl,h⟩:=h; exact ⟨H',out,hr,h⟩
  obtain ⟨a1,c1,rfl⟩:=h1.v0;obtain ⟨a2,c2,rfl⟩:=h2.v0;obtain ⟨M,hM⟩:∃ M,max a.length b.length = M:=⟨_,rfl⟩;rw [hM];have hmx:(if (a.length:Int) < (b.length:Int) then (b.length:Int) else (a.length:Int)) = (M:Int):=by split <;> omega
  have hM2:M ≤ 1000:=by omega
  have hMa:a.length ≤ M ∧ b.length ≤ M:=by omega
  have hwm:IntKind.i64.wrap ((M:Int) + 1) = ((M + 1:Nat):Int):=IntWalk.i64_in _ (by omega)
  have hmk:=mkU H (l:=((M + 1:Nat):Int)) (by omega) (by omega)
  rw [Int.toNat_natCast] at hmk;obtain ⟨H1,e1,k1,z1,-,-⟩:=box1 H ((List.replicate (M + 1) (0:Int)).map fun z => .int .u32 z) 96
  have w1:Own H1 H.size 96 ((List.replicate (M + 1) (0:Int)).map fun z => .int .u32 z):=e1 ▸ Own.new H _ _
  rw [e1] at hmk;refine Zaaw Tryd.func75 rfl (Nat.le_of_ble_eq_true rfl) (hS.no rfl _ _) ?_
  rw [Tryd.ntmps75,Tryd.results75];clear hM e1
  repeat' simp only [↓Zabo,↓Zabq,↓Zaah,↓Zabl,↓Zabp,↓Zaci,↓Zach,↓Zacn,↓Zaar,↓Zaaj,↓Zaak,↓bxOp_makeSlice,↓Zaap,↓bxOp_max,↓bxPut,↓Zabj,↓Zabh,↓Zacl,↓Zacm,↓Zaco,↓Zaba,↓Zaay,Zacj,mm_max,Zaad,Zabc,Zabf,↓reduceIte,Nat.reduceEqDiff,Nat.reduceLT, *,argF,List.getD_cons_zero,List.getD_cons_succ,lenU]
  refine sxL_of (fun m ρ X => ∃ (i:Nat) (out:List Int) (c:Int),m = M + 1 - i ∧ i ≤ M + 1 ∧ out.length = M + 1 ∧ W.Digs out ∧ (0 ≤ c ∧ c ≤ 1) ∧ W.val (out.take i) + 4294967296 ^ i * c = W.val (a.take i) + W.val (b.take i) ∧ Keep H X ∧ Own X H.size 96 (out.map fun z => .int .u32 z) ∧
    ρ 0 = .slice a1 a.length c1 ∧ ρ 1 = .slice a2 b.length c2 ∧ ρ 5 = .slice (some ⟨H.size,0,none⟩) (M + 1) (M + 1) ∧ ρ 6 = .int .u64 c ∧ ρ 16 = .int .i64 ((M + 1:Nat):Int) ∧ ρ 17 = .int .i64 (i:Int))
    ⟨0,List.replicate (M + 1) 0,0,rfl,Nat.zero_le _,by simp,(fun x hx => by rw [List.eq_of_mem_replicate hx]; omega),by omega,by simp [W.val],k1,w1,rfl,rfl,rfl,rfl,rfl,rfl⟩ ?_
  clear hmk w1 k1 z1 hmx hwm;rintro m ρ X ⟨i,out,c,rfl,hi,hol,hod,hc,hov,hKX,w2,e0,e1,e5,e6,e16,e17⟩
  by_cases hlt:i < M + 1
  · have hlt':(i:Int) < ((M + 1:Nat):Int):=by omega
    have hwi:IntKind.i64.wrap ((i:Int) + 1) = ((i + 1:Nat):Int):=IntWalk.i64_in _ (by omega)
    have f1:=(wordAt_runs hS _ a r1 o1 X i (h1.keep hKX) (by omega)).bx
    have f2:=(wordAt_runs hS _ b r2 o2 X i (h2.keep hKX) (by omega)).bx
    have p2:=ixUn (r:=H.size) (c:=M + 1) hlt;have hx:=ha.getD i;have hy:=hb.getD i;have hio:i < out.length:=by omega
    have hst:W.val ((out.set i ((a.getD i 0 + b.getD i 0 + c) % 4294967296)).take (i + 1)) + 4294967296 ^ (i + 1) * ((a.getD i 0 + b.getD i 0 + c) / 4294967296) = W.val (a.take (i + 1)) + W.val (b.take (i + 1)):=by
      rw [wtake_succ,List.take_set_of_le (Nat.le_refl i),set_getD hio,if_pos rfl,Int.pow_succ,wadd_step (x:=a.getD i 0 + b.getD i 0) rfl hov,wtake_succ a,wtake_succ b,Int.mul_add];omega
    have hd2:W.Digs (out.set i ((a.getD i 0 + b.getD i 0 + c) % 4294967296)):=hod.set (by omega)
    have hl2:(out.set i ((a.getD i 0 + b.getD i 0 + c) % 4294967296)).length = M + 1:=by rw [List.length_set]; exact hol
    obtain ⟨X4,ps,w4,hkp,_⟩:=stU w2 ((a.getD i 0 + b.getD i 0 + c) % 4294967296) hio;have hK4:=hkp H hKX (Nat.le_refl _);clear hov hod hol w2 hkp h1 h2 ha hb hio;generalize a.getD i 0 = x at *;generalize b.getD i 0 = y at *;have g1:IntKind.u64.wrap x = x:=IntWalk.u64_in _ (by omega)
    have g2:IntKind.u64.wrap y = y:=IntWalk.u64_in _ (by omega)
    have g3:IntKind.u64.wrap (x + y) = x + y:=IntWalk.u64_in _ (by omega)
    have g4:IntKind.u64.wrap (c + (x + y)) = x + y + c:=by rw [IntWalk.u64_in _ (by omega)]; omega
    have g5:IntKind.u32.wrap (x + y + c) = (x + y + c) % 4294967296:=wrap3 _;have g6:(x + y + c).fdiv (2 ^ min (Int.toNat 32) IntKind.u64.bits) = (x + y + c) / 4294967296:=shr32 (by omega)
    have g7:0 ≤ (x + y + c) / 4294967296 ∧ (x + y + c) / 4294967296 ≤ 1:=by omega
    clear hx hy hc
    repeat' simp only [↓Zabr,↓Zabo,↓Zabq,↓Zaag,↓Zabl,↓Zabn,↓Zaci,↓Zach,↓Zacn,↓Zaar,↓Zaaj,↓Zaat,↓Zaak,↓Zaao,↓Zaau,↓bxOp_convert,↓Zack,↓bxPut,↓Zabj,↓Zabi,↓Zaaf,↓Zaae,↓Zabe,↓Zabd,↓Zaco,↓Zaba,↓Zaay,↓Zaaz,aConvH_int,Zacj,sxOptB_ite,Zaad,Zabc,Zabs,Zacg,List.map,List.nil_append,List.append_nil,↓reduceIte,Nat.reduceEqDiff,Nat.reduceLT,dec_T,true_and, *,cvUU,cvU6]
    exact ⟨le32,_,by omega,i + 1,_,_,rfl,by omega,hl2,hd2,g7,hst,w4,rfl,rfl⟩
  · have hlt':¬ (i:Int) < ((M + 1:Nat):Int):=by omega
    have hie:i = M + 1:=by omega
    have hva:W.val out = W.val a + W.val b:=by
      rw [hie,wtake_all (by omega),wtake_all (by omega),wtake_all (by omega),Int.pow_succ] at hov
      have q1:=wlt_pow ha M hMa.1;have q2:=wlt_pow hb M hMa.2;have q3:=hod.nonneg;have q4:=W.pow_pos' M;have hc0:c = 0 ∨ c = 1:=by omega
      rcases hc0 with rfl | rfl
      · omega
      · omega
    have hpo:∃ out',Value.slice (some ⟨H.size,0,none⟩) (M + 1) (M + 1) = .slice (some ⟨H.size,0,none⟩) out'.length out'.length ∧ Keep H X ∧ Own X H.size 96 (out'.map fun z => .int .u32 z) ∧ W.Digs out' ∧ W.val out' = W.val a + W.val b ∧ out'.length = M + 1:=⟨out,by rw [hol],hKX,w2,hod,hva,hol⟩
    clear hov hod hol w2 h1 h2 ha hb hie hva hc hi hlt hKX
    repeat' simp only [↓Zabr,↓Zabo,↓Zabq,↓Zaag,↓Zabl,↓Zabn,↓Zaci,↓Zach,↓Zacn,↓Zaar,↓Zaaj,↓Zaat,↓Zaak,↓Zaao,↓Zaau,↓bxOp_convert,↓Zack,↓bxPut,↓Zabj,↓Zabi,↓Zaaf,↓Zaae,↓Zabe,↓Zabd,↓Zaco,↓Zaba,↓Zaay,↓Zaaz,Zacj,Zaad,Zabc,Zabs,Zacf,List.nil_append,↓reduceIte,Nat.reduceEqDiff,Nat.reduceLT,dec_F, *]
end Go.Proofs.YtdfjaoncabanbaaDoor
