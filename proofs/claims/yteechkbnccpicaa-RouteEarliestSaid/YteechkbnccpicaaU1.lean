/- From arguments as they come in, in any world, to the machine's memory: legs. -/
import Derived.Test.YteechkbnccpicaaU0
import Derived.Test.YteechkbnccpicaaSBx
set_option linter.unusedVariables false
set_option linter.unusedSimpArgs false
set_option linter.unusedSectionVars false

namespace Go.Proofs.Yteechkbnccpicaa
open Go Go.ChangeShapes Go.WideShapes Go.ChangeAt Go.RowKit Go.Deep
set_option maxRecDepth 100000
theorem cellsL:Try.prog.cellsOf 61 = 5:=by kernel_rfl
open AM in
theorem leg5_imp:Imp Try.prog 61 (prodE (intE .i64) (prodE (intE .i64) (prodE (intE .i64) (prodE (intE .i64) (intE .i64))))):=
  structE_imp Try.underlying61 cellsL (FImp.cons int_imp cellsI rfl (FImp.cons int_imp cellsI rfl (FImp.cons int_imp cellsI rfl (FImp.cons int_imp cellsI rfl (FImp.one int_imp cellsI)))))
open AM in
theorem leg_imp:Imp Try.prog 61 legE:=mapE_imp (fun z:Int × Int × Int × Int × Int => (⟨z.1,z.2.1,z.2.2.1,z.2.2.2.1,z.2.2.2.2⟩:Lg)) (fun z => rfl) leg5_imp
end Go.Proofs.Yteechkbnccpicaa

namespace Go.Proofs.Yteechkbnccpicaa
open Go Go.AM
set_option maxRecDepth 10000

theorem alG (H:Heap):aAlloc Try.prog H 61 = some (.pointer (some ⟨H.size,0,none⟩),H.newExact [.int .i64 0,.int .i64 0,.int .i64 0,.int .i64 0,.int .i64 0] 61):=by kernel_rfl
theorem infoG:∃ i,Try.prog.info? 61 = some i ∧ i.size = 5:=Option.map_eq_some_iff.1 (show (Try.prog.info? 61).map (·.size) = some 5 by kernel_rfl)
theorem newG (H:Heap) (x:Lg):∃ H2,aStore Try.prog (H.newExact [.int .i64 0,.int .i64 0,.int .i64 0,.int .i64 0,.int .i64 0] 61) 61 (.pointer (some ⟨H.size,0,none⟩)) (.agg ⟨lc x⟩) = some H2 ∧ Keep H H2 ∧ H2.read H.size 0 5 = some (lc x):=by
  obtain ⟨i,hi,hsz⟩:=infoG;obtain ⟨H2,h1,h2,h3,h4,h5⟩:=(Own.new H [.int .i64 0,.int .i64 0,.int .i64 0,.int .i64 0,.int .i64 0] 61).store (t:=61) hi (v:=.agg ⟨lc x⟩) (new:=lc x) rfl (by rw [hsz]; rfl) rfl (o:=0) (by show 0 + 5 ≤ 5; decide)
  refine ⟨H2,h1,h5 H (Keep.newExact _ _ _) (Nat.le_refl _),?_⟩;have h2:Own H2 H.size 61 (lc x):=h2;exact h2.read (o:=0) (n:=5) (by show 0 + 5 ≤ 5; decide)

variable {S:AM.Sys} (hS:Only S 11)
include hS

set_option maxHeartbeats 2000000 in
theorem check_runs (n:Int) (ls:List Lg) (v:Value) (r o:Nat) (ch fr to:Int) (ts:List Int) (v2:Value) (r2 o2:Nat) (H:Heap) (hl:SlG H v ls r o) (ht:SlI .i64 H v2 ts r2 o2) :
    ∃ H',Keep H H' ∧ Runs Try.prog S (.fn 34) [.int .i64 n,v,.int .i64 ch,.int .i64 fr,.int .i64 to,v2] H (.int .i64 (errC n ls ch fr to ts)) H':=by
  suffices h:WCall Try.prog S (.fn 34) [.int .i64 n,v,.int .i64 ch,.int .i64 fr,.int .i64 to,v2] H (fun u H' => PostC H (errC n ls ch fr to ts) u H') by
    obtain ⟨_,H',hr,rfl,h⟩:=h; exact ⟨H',h,hr⟩
  obtain ⟨a,c,rfl⟩:=hl.v0;obtain ⟨a2,c2,rfl⟩:=ht.v0;have f1:=fun H' => (isWithin_runs hS n 1 8 H').bx
  have hgo:∃ er,er = errC n ls ch fr to ts:=⟨_,rfl⟩;obtain ⟨er,he⟩:=hgo;rw [← he];unfold errC at he;refine Zaba Try.func34 rfl (Nat.le_of_ble_eq_true rfl) (hS.no rfl _ _) ?_
  rw [Try.ntmps34,Try.results34]
  by_cases hn:1 ≤ n ∧ n ≤ 8
  case neg =>
    rw [if_pos hn] at he;have dn:decide (1 ≤ n ∧ n ≤ 8) = false:=decide_eq_false hn;have hpost:PostC H er (.int .i64 2) H:=by rw [he]; exact ⟨rfl,Keep.refl _⟩
    clear he hn hl ht
    repeat' simp only [↓Zaca,↓Zabx,↓Zabz,↓Zaai,↓Zaaj,↓Zabu,↓Zaby,↓Zacw,↓Zacv,↓Zadb,↓Zaaz,↓Zaau,↓Zaam,↓Zaav,↓Zaan,↓Zaax,↓Zaay,↓Zaas,↓bxPut,↓Zabs,↓Zabt,↓Zabq,↓Zacz,↓Zada,↓Zadc,↓Zabg,↓Zabe,↓Zabf,↓dstAt,↓Zabh,Zacx,una_nf,Zacb,Zacu,Zabm,List.map,List.nil_append,List.append_nil,↓reduceIte,Nat.reduceEqDiff,Nat.reduceLT, *,argF,List.getD_cons_zero]
  rw [if_neg (fun h => h hn)] at he
  have dn:decide (1 ≤ n ∧ n ≤ 8) = true:=decide_eq_true hn
  by_cases h60:60 < ls.length
  · rw [if_pos h60] at he;have h60':(60:Int) < (ls.length:Int):=by omega
    have hpost:PostC H er (.int .i64 3) H:=by rw [he]; exact ⟨rfl,Keep.refl _⟩
    clear he hn hl ht h60
    repeat' simp only [↓Zaca,↓Zabx,↓Zabz,↓Zaai,↓Zaaj,↓Zabu,↓Zaby,↓Zacw,↓Zacv,↓Zadb,↓Zaaz,↓Zaau,↓Zaam,↓Zaav,↓Zaan,↓Zaax,↓Zaay,↓Zaas,↓bxPut,↓Zabs,↓Zabt,↓Zabq,↓Zacz,↓Zada,↓Zadc,↓Zabg,↓Zabe,↓Zabf,↓dstAt,↓Zabh,Zacx,Zaae,Zabi,una_nt,Zacb,Zacu,Zact,Zabm,List.map,List.nil_append,List.append_nil,↓reduceIte,Nat.reduceEqDiff,Nat.reduceLT,dec_T, *,argF,List.getD_cons_zero,List.getD_cons_succ,lenG]
  rw [if_neg h60] at he;have h60':¬ (60:Int) < (ls.length:Int):=by omega
  have hml:=hl.ml;have hml2:=ht.ml
  repeat' simp only [↓Zaca,↓Zabx,↓Zabz,↓Zaai,↓Zaaj,↓Zabu,↓Zaby,↓Zacw,↓Zacv,↓Zadb,↓Zaaz,↓Zaau,↓Zaam,↓Zaav,↓Zaan,↓Zaax,↓Zaay,↓Zaas,↓bxPut,↓Zabs,↓Zabt,↓Zabq,↓Zacz,↓Zada,↓Zadc,↓Zabg,↓Zabe,↓Zabf,↓dstAt,↓Zabh,Zacx,Zaae,Zabi,una_nt,Zacb,Zact,Zabm,List.map,List.nil_append,List.append_nil,↓reduceIte,Nat.reduceEqDiff,Nat.reduceLT,dec_T,dec_F,and_self, *,argF,List.getD_cons_zero,List.getD_cons_succ,lenG]
  refine sxL_of (fun m ρ H1 => ∃ k:Nat,m = ls.length - k ∧ k ≤ ls.length ∧ Keep H H1 ∧ (∀ j,j < k → LegOk n (ls.getD j default)) ∧
      ρ 0 = .int .i64 n ∧ ρ 2 = .int .i64 ch ∧ ρ 3 = .int .i64 fr ∧ ρ 4 = .int .i64 to ∧ ρ 5 = .slice a2 ts.length c2 ∧ ρ 23 = .slice a ls.length c ∧ ρ 24 = .int .i64 (ls.length:Int) ∧ ρ 25 = .int .i64 (k:Int))
    ⟨0,rfl,Nat.zero_le _,Keep.refl _,fun j hj => absurd hj (Nat.not_lt_zero j),rfl,rfl,rfl,rfl,rfl,rfl,rfl,rfl⟩ ?_
  rintro m ρ H1 ⟨k,rfl,hk,hK1,hall,e0,e2,e3,e4,e5,e23,e24,e25⟩
  by_cases hlt:k < ls.length
  · have hlt':(k:Int) < (ls.length:Int):=by omega
    have hw:=wrap_succ hlt hml;have hob:=SlG_at (hl.keep hK1) hlt;obtain ⟨q,hix,hrd,_⟩:=hob;have hng:=newG H1 (ls.getD k default);obtain ⟨H2,s2,hK2,rd2⟩:=hng;have hal:=alG H1;have hil:=isLeg_runs hS n hn (ls.getD k default) H2;obtain ⟨H3,hK3,hR3⟩:=hil;have hK13:=(hK1.trans hK2).trans hK3
    by_cases hok:LegOk n (ls.getD k default)
    · have dok:decide (LegOk n (ls.getD k default)) = true:=decide_eq_true hok;rw [dok] at hR3;have f3:=hR3.bx;have hall':∀ j,j < k + 1 → LegOk n (ls.getD j default):=fun j hj => by
        rcases Nat.lt_or_ge j k with h | h
        · exact hall j h
        · rw [show j = k by omega]; exact hok
      clear hR3 hok dok hall he hl ht
      repeat' simp only [↓Zaca,↓Zabx,↓Zabz,↓Zaai,↓Zabu,↓Zabw,↓Zaby,↓Zacw,↓Zacv,↓Zadb,↓Zaau,↓Zaam,↓Zaal,↓Zaat,↓Zaaw,↓Zaan,↓Zaax,↓Zaar,↓Zaay,↓Zacy,↓bxPut,↓Zabs,↓Zabr,↓Zabt,↓Zaag,↓Zaah,↓Zaaf,↓Zabk,↓Zabj,↓Zabl,↓Zabq,↓Zacz,↓Zada,↓Zadc,↓Zabg,↓Zabe,↓Zabf,Zacx,Zaae,Zabi,una_nt,Zacb,Zacu,Zact,Zabm,List.map,List.nil_append,List.append_nil,↓reduceIte,Nat.reduceEqDiff,Nat.reduceLT,dec_T,true_and,Option.map_some, *,ldG]
      exact ⟨ls.length - (k + 1),by omega,k + 1,rfl,by omega,hall',rfl⟩
    · have dok:decide (LegOk n (ls.getD k default)) = false:=decide_eq_false hok;rw [dok] at hR3;have f3:=hR3.bx;rw [if_pos (fun h => hok (h _ (getD_mem hlt)))] at he
      have hpost:PostC H er (.int .i64 2) H3:=by rw [he]; exact ⟨rfl,hK13⟩
      clear hR3 hok dok hall he hl ht
      repeat' simp only [↓Zaca,↓Zabx,↓Zabz,↓Zaai,↓Zabu,↓Zabw,↓Zaby,↓Zacw,↓Zacv,↓Zadb,↓Zaau,↓Zaam,↓Zaal,↓Zaat,↓Zaaw,↓Zaan,↓Zaax,↓Zaar,↓Zaay,↓Zacy,↓bxPut,↓Zabs,↓Zabr,↓Zabt,↓Zaag,↓Zaah,↓Zaaf,↓Zabk,↓Zabj,↓Zabl,↓Zabq,↓Zacz,↓Zada,↓Zadc,↓Zabg,↓Zabe,↓Zabf,Zacx,Zaae,Zabi,una_nf,Zacb,Zacu,Zabm,List.map,List.nil_append,List.append_nil,↓reduceIte,Nat.reduceEqDiff,Nat.reduceLT,dec_T,Option.map_some, *,ldG]
  have hlt':¬ (k:Int) < (ls.length:Int):=by omega
  have hke:k = ls.length:=by omega
  subst hke;have hno:¬ (((ls.length:Nat):Int) < ((ls.length:Nat):Int)):=by omega
  rw [if_neg (fun h => h (all_of hall))] at he
  have f4:=(isWithin_runs hS ch 0 100 H1).bx;have f5:=(isPlace_runs hS n fr hn H1).bx;have f6:=(isPlace_runs hS n to hn H1).bx
  by_cases hb:¬ (0 ≤ ch ∧ ch ≤ 100) ∨ ¬ (0 ≤ fr ∧ fr ≤ n - 1) ∨ ¬ (0 ≤ to ∧ to ≤ n - 1)
  · rw [if_pos hb] at he;have hpost:PostC H er (.int .i64 2) H1:=by rw [he]; exact ⟨rfl,hK1⟩
    clear he hl ht hall
    by_cases c1:0 ≤ ch ∧ ch ≤ 100
    case neg =>
      have d1:decide (0 ≤ ch ∧ ch ≤ 100) = false:=decide_eq_false c1;clear hb c1
      repeat' simp only [↓Zaca,↓Zabx,↓Zabz,↓Zaai,↓Zabu,↓Zabw,↓Zaby,↓Zacw,↓Zacv,↓Zadb,↓Zaau,↓Zaam,↓Zaal,↓Zaat,↓Zaaw,↓Zaan,↓Zaax,↓Zaar,↓Zaay,↓Zacy,↓bxPut,↓Zabs,↓Zabr,↓Zabt,↓Zaag,↓Zaah,↓Zaaf,↓Zabk,↓Zabj,↓Zabl,↓Zabq,↓Zacz,↓Zada,↓Zadc,↓Zabg,↓Zabe,↓Zabf,Zacx,Zaae,Zabi,una_nf,Zaad,Zacb,Zacq,Zacu,Zact,Zabm,List.map,List.nil_append,List.append_nil,↓reduceIte,Nat.reduceEqDiff,Nat.reduceLT,dec_F, *]
    have d1:decide (0 ≤ ch ∧ ch ≤ 100) = true:=decide_eq_true c1
    by_cases c2:0 ≤ fr ∧ fr ≤ n - 1
    case neg =>
      have d2:decide (0 ≤ fr ∧ fr ≤ n - 1) = false:=decide_eq_false c2;clear hb c1 c2
      repeat' simp only [↓Zaca,↓Zabx,↓Zabz,↓Zaai,↓Zabu,↓Zabw,↓Zaby,↓Zacw,↓Zacv,↓Zadb,↓Zaau,↓Zaam,↓Zaal,↓Zaat,↓Zaaw,↓Zaan,↓Zaax,↓Zaar,↓Zaay,↓Zacy,↓bxPut,↓Zabs,↓Zabr,↓Zabt,↓Zaag,↓Zaah,↓Zaaf,↓Zabk,↓Zabj,↓Zabl,↓Zabq,↓Zacz,↓Zada,↓Zadc,↓Zabg,↓Zabe,↓Zabf,Zacx,Zaae,Zabi,una_nt,una_nf,Zaad,Zaac,Zacb,Zacq,Zacp,Zacu,Zact,Zabm,List.map,List.nil_append,List.append_nil,↓reduceIte,Nat.reduceEqDiff,Nat.reduceLT,dec_F, *]
    have d2:decide (0 ≤ fr ∧ fr ≤ n - 1) = true:=decide_eq_true c2;have c3:¬ (0 ≤ to ∧ to ≤ n - 1):=by
      rcases hb with h | h | h
      · exact absurd c1 h
      · exact absurd c2 h
      · exact h
    have d3:decide (0 ≤ to ∧ to ≤ n - 1) = false:=decide_eq_false c3;clear hb c1 c2 c3
    repeat' simp only [↓Zaca,↓Zabx,↓Zabz,↓Zaai,↓Zabu,↓Zabw,↓Zaby,↓Zacw,↓Zacv,↓Zadb,↓Zaau,↓Zaam,↓Zaal,↓Zaat,↓Zaaw,↓Zaan,↓Zaax,↓Zaar,↓Zaay,↓Zacy,↓bxPut,↓Zabs,↓Zabr,↓Zabt,↓Zaag,↓Zaah,↓Zaaf,↓Zabk,↓Zabj,↓Zabl,↓Zabq,↓Zacz,↓Zada,↓Zadc,↓Zabg,↓Zabe,↓Zabf,Zacx,Zaae,Zabi,una_nt,una_nf,Zaac,Zacb,Zacp,Zacu,Zact,Zabm,List.map,List.nil_append,List.append_nil,↓reduceIte,Nat.reduceEqDiff,Nat.reduceLT,dec_F, *]
  rw [if_neg hb] at he;have c1:0 ≤ ch ∧ ch ≤ 100:=Decidable.not_not.1 fun h => hb (.inl h)
  have c2:0 ≤ fr ∧ fr ≤ n - 1:=Decidable.not_not.1 fun h => hb (.inr (.inl h))
  have c3:0 ≤ to ∧ to ≤ n - 1:=Decidable.not_not.1 fun h => hb (.inr (.inr h))
  have d1:decide (0 ≤ ch ∧ ch ≤ 100) = true:=decide_eq_true c1;have d2:decide (0 ≤ fr ∧ fr ≤ n - 1) = true:=decide_eq_true c2;have d3:decide (0 ≤ to ∧ to ≤ n - 1) = true:=decide_eq_true c3;clear hb c1 c2 c3 hall
  repeat' simp only [↓Zaca,↓Zabx,↓Zabz,↓Zaai,↓Zabu,↓Zabw,↓Zaby,↓Zacw,↓Zacv,↓Zadb,↓Zaau,↓Zaam,↓Zaal,↓Zaat,↓Zaaw,↓Zaan,↓Zaax,↓Zaar,↓Zaay,↓Zacy,↓bxPut,↓Zabs,↓Zabr,↓Zabt,↓Zaag,↓Zaah,↓Zaaf,↓Zabk,↓Zabj,↓Zabl,↓Zabq,↓Zacz,↓Zada,↓Zadc,↓Zabg,↓Zabe,↓Zabf,Zacx,Zaae,Zabi,una_nt,Zaac,Zacb,Zacp,Zact,Zabm,List.map,List.nil_append,List.append_nil,↓reduceIte,Nat.reduceEqDiff,Nat.reduceLT,dec_F, *,lenIs]
  clear f1 f4 f5 f6;have f1:=fun z => (isWithin_runs hS z 0 10000 H1).bx
  refine sxL_of (fun m ρ H2 => ∃ k:Nat,m = ts.length - k ∧ k ≤ ts.length ∧ H2 = H1 ∧ (∀ j,j < k → 0 ≤ ts.getD j 0 ∧ ts.getD j 0 ≤ 10000) ∧
      ρ 49 = .slice a2 ts.length c2 ∧ ρ 50 = .int .i64 (ts.length:Int) ∧ ρ 51 = .int .i64 (k:Int))
    ⟨0,rfl,Nat.zero_le _,rfl,fun j hj => absurd hj (Nat.not_lt_zero j),rfl,rfl,rfl⟩ ?_
  clear e0 e2 e3 e4 e5 e23 e24 e25 hlt hlt' hno hk;rintro m ρ H2 ⟨k,rfl,hk,rfl,hall,e49,e50,e51⟩
  by_cases hlt:k < ts.length
  · have hlt':(k:Int) < (ts.length:Int):=by omega
    have hw:=wrap_succ hlt hml2;have hob:=SlI_at (ht.keep hK1) hlt;obtain ⟨hix,hrd⟩:=hob
    by_cases hok:0 ≤ ts.getD k 0 ∧ ts.getD k 0 ≤ 10000
    · have dok:decide (0 ≤ ts.getD k 0 ∧ ts.getD k 0 ≤ 10000) = true:=decide_eq_true hok;have hall':∀ j,j < k + 1 → 0 ≤ ts.getD j 0 ∧ ts.getD j 0 ≤ 10000:=fun j hj => by
        rcases Nat.lt_or_ge j k with h | h
        · exact hall j h
        · rw [show j = k by omega]; exact hok
      clear hok hall he hl ht
      repeat' simp only [↓Zaca,↓Zabx,↓Zabz,↓Zaai,↓Zabu,↓Zabw,↓Zaby,↓Zacw,↓Zacv,↓Zadb,↓Zaau,↓Zaam,↓Zaat,↓Zaan,↓Zaax,↓Zaar,↓Zaay,↓bxPut,↓Zabs,↓Zabr,↓Zabt,↓Zaag,↓Zaah,↓Zaaf,↓Zabk,↓Zabj,↓Zabl,↓Zabq,↓Zacz,↓Zada,↓Zadc,↓Zabg,↓Zabe,↓Zabf,Zacx,Zaae,Zabi,una_nt,Zacb,Zacu,Zact,Zabm,List.map,List.nil_append,List.append_nil,↓reduceIte,Nat.reduceEqDiff,Nat.reduceLT,dec_T,true_and,one1,Option.bind_some, *,ldC,one1]
      exact ⟨ts.length - (k + 1),by omega,k + 1,rfl,by omega,hall',rfl⟩
    · have dok:decide (0 ≤ ts.getD k 0 ∧ ts.getD k 0 ≤ 10000) = false:=decide_eq_false hok;rw [if_pos (fun h => hok (h _ (getD_mem hlt)))] at he
      have hpost:PostC H er (.int .i64 2) H2:=by rw [he]; exact ⟨rfl,hK1⟩
      clear hok hall he hl ht
      repeat' simp only [↓Zaca,↓Zabx,↓Zabz,↓Zaai,↓Zabu,↓Zabw,↓Zaby,↓Zacw,↓Zacv,↓Zadb,↓Zaau,↓Zaam,↓Zaat,↓Zaan,↓Zaax,↓Zaar,↓Zaay,↓bxPut,↓Zabs,↓Zabr,↓Zabt,↓Zaag,↓Zaah,↓Zaaf,↓Zabk,↓Zabj,↓Zabl,↓Zabq,↓Zacz,↓Zada,↓Zadc,↓Zabg,↓Zabe,↓Zabf,Zacx,Zaae,Zabi,una_nf,Zacb,Zacu,Zabm,List.map,List.nil_append,List.append_nil,↓reduceIte,Nat.reduceEqDiff,Nat.reduceLT,dec_T,one1,Option.bind_some, *,ldC,one1]
  have hlt':¬ (k:Int) < (ts.length:Int):=by omega
  have hke:k = ts.length:=by omega
  subst hke;have hno:¬ (((ts.length:Nat):Int) < ((ts.length:Nat):Int)):=by omega
  rw [if_neg (fun h => h (all_of hall))] at he
  have hpost:PostC H er (.int .i64 0) H2:=by rw [he]; exact ⟨rfl,hK1⟩
  clear he hall hl ht
  repeat' simp only [↓Zaca,↓Zabx,↓Zabz,↓Zaai,↓Zabu,↓Zabw,↓Zaby,↓Zacw,↓Zacv,↓Zadb,↓Zaau,↓Zaam,↓Zaat,↓Zaan,↓Zaax,↓Zaar,↓Zaay,↓bxPut,↓Zabs,↓Zabr,↓Zabt,↓Zaag,↓Zaah,↓Zaaf,↓Zabk,↓Zabj,↓Zabl,↓Zabq,↓Zacz,↓Zada,↓Zadc,↓Zabg,↓Zabe,↓Zabf,Zacx,Zaae,Zabi,Zacb,Zact,Zabm,List.nil_append,↓reduceIte,Nat.reduceLT,dec_F, *]
end Go.Proofs.Yteechkbnccpicaa
