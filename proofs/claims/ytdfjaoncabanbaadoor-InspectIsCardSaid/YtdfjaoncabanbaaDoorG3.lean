/- Games: what the reference checks, on the canonical machine. -/
import Derived.Test.YtdfjaoncabanbaaDoorG2
set_option linter.unusedVariables false
set_option linter.unusedSimpArgs false
set_option linter.unusedSectionVars false

namespace Go.Proofs.YtdfjaoncabanbaaDoor
open Go Go.AM
set_option maxRecDepth 10000

theorem shieldG {G:Prop} (h:∀ P:Prop,P = G → P):G:=h G rfl

variable {S:AM.Sys} (hS:Only S 5)
include hS

theorem few_runs (g:List (List Int)) (gv:Value) (r o:Nat) (H:Heap) (hL:H.low ≤ H.size) (hg:SlG H gv g r o):∃ b,Runs Tryd.prog S (.fn 4) [gv] H (.bool b) H:=by
  suffices h:WCall Tryd.prog S (.fn 4) [gv] H (fun v H' => ∃ b,v = .bool b ∧ H' = H) by
    obtain ⟨_,_,hr,b,rfl,rfl⟩:=h; exact ⟨b,hr⟩
  obtain ⟨a,c,rfl⟩:=hg.v0;refine Zaaw Tryd.func4 rfl (Nat.le_of_ble_eq_true rfl) (hS.no rfl _ _) ?_
  rw [Tryd.ntmps4,Tryd.results4]
  repeat' (first | (with_reducible refine Zace (fun h => ?_) (fun h => ?_)) | (with_reducible refine Zacd (fun h => ?_) (fun h => ?_)) | (with_reducible refine sxIfB_sp (fun h => ?_) (fun h => ?_)) | simp only [↓Zabo,↓Zabq,↓Zaah,↓Zabl,↓Zabp,↓Zaci,↓Zach,↓Zacn,↓Zaaj,↓bxPut,↓Zabj,↓Zabh,↓Zacl,↓Zacm,↓Zaay,Zabf,Nat.reduceLT, *])
  refine sxL_of (fun m ρ H2 => ∃ i:Nat,m = g.length - i ∧ i ≤ g.length ∧ H2 = H ∧ ρ 0 = .slice a g.length c ∧ ρ 3 = .int .i64 i) ⟨0,rfl,Nat.zero_le _,rfl,rfl,rfl⟩ ?_
  rintro m ρ H2 ⟨i,rfl,hi,rfl,e0,e3⟩;refine shieldG fun P hP => ?_
  by_cases hil:i = g.length
  · have hc:¬ (i:Int) < (g.length:Int):=by omega
    clear hg hil hi;subst hP
    repeat' (first | (with_reducible refine Zace (fun h => ?_) (fun h => ?_)) | (with_reducible refine Zacd (fun h => ?_) (fun h => ?_)) | (with_reducible refine sxIfB_sp (fun h => ?_) (fun h => ?_)) | simp only [↓Zabr,↓Zabo,↓Zabq,↓Zaag,↓Zabl,↓Zabn,↓Zabp,↓Zaci,↓Zach,↓Zacn,↓Zaav,↓Zaar,↓Zaaj,↓Zaas,↓Zaaq,↓Zaak,↓Zaao,↓Zaap,↓bxPut,↓Zabj,↓Zabi,↓Zabk,↓Zaaf,↓blockQ_ret,↓Zaae,↓Zabe,↓Zabd,↓loopQ_ret,↓Zabh,↓Zacl,↓Zacm,↓Zaco,↓Zaba,↓Zaay,↓dstAt,↓Zabb,Zacj,Zaad,Zabc,Zacf,Zabf,↓reduceIte,Nat.reduceEqDiff,Nat.reduceLT,dec_F,and_true, *,lenG])
    all_goals exact ⟨_,rfl⟩
  · have hc:(i:Int) < (g.length:Int):=by omega
    have hlt:i < g.length:=by omega
    have hob:=SlG_at hg hlt;obtain ⟨ix,y,r1,o1,rd,hy⟩:=hob;have hv:=hy.v0;obtain ⟨a2,c2,rfl⟩:=hv;have hml:=hg.ml;have w5:=wrap_succ hlt hg.ml;clear hg hy hml;subst hP
    repeat' (first | (with_reducible refine Zace (fun h => ?_) (fun h => ?_)) | (with_reducible refine Zacd (fun h => ?_) (fun h => ?_)) | (with_reducible refine sxIfB_sp (fun h => ?_) (fun h => ?_)) | simp only [↓Zabr,↓Zabo,↓Zabq,↓Zaag,↓Zabl,↓Zabn,↓Zabp,↓Zaci,↓Zach,↓Zacn,↓Zaav,↓Zaar,↓Zaaj,↓Zaas,↓Zaaq,↓Zaak,↓Zaao,↓Zaap,↓bxPut,↓Zabj,↓Zabi,↓Zabk,↓Zaaf,↓blockQ_ret,↓Zaae,↓Zabe,↓Zabd,↓loopQ_ret,↓Zabh,↓Zacl,↓Zacm,↓Zaco,↓Zaba,↓Zaay,↓dstAt,↓Zabb,Zacj,Zaad,Zabc,Zaac,Zaab,sxGuardB_ft,Zacc,Zacg,Zabf,↓reduceIte,Nat.reduceEqDiff,Nat.reduceLT,dec_T,dec_F,true_and,and_true,one1,Option.bind_some, *,lenG,lenI,ldIs])
    all_goals first
      | exact ⟨_,rfl⟩
      | exact ⟨_,by omega,i + 1,rfl,by omega,rfl⟩

theorem rGame_runs (g:List (List Int)) (gv:Value) (r o:Nat) (H:Heap) (hL:H.low ≤ H.size) (hg:SlG H gv g r o):Runs Tryd.prog S (.fn 19) [gv] H (.bool (decide (IsG g))) H:=by
  suffices h:WCall Tryd.prog S (.fn 19) [gv] H (fun v H' => v = .bool (decide (IsG g)) ∧ H' = H) by
    obtain ⟨_,_,hr,rfl,rfl⟩:=h; exact hr
  obtain ⟨a,c,rfl⟩:=hg.v0
  by_cases h1:1 ≤ (g.length:Int) ∧ (g.length:Int) ≤ 5
  · have h0:0 < g.length:=by omega
    obtain ⟨ix,y,r1,o1,rd,hy⟩:=SlG_at hg h0;have ix0:aIndexAt Tryd.prog 22 (.slice a g.length c) (.int .i64 0) = some (.pointer (some ⟨r,o,none⟩)):=ix;have rd0:H.read r o 1 = some [y]:=rd;obtain ⟨a2,c2,rfl⟩:=hy.v0;clear ix rd;have c1:¬ (g.length:Int) < 1:=by omega
    have c2':¬ 5 < (g.length:Int):=by omega
    by_cases h2:1 ≤ ((g.getD 0 default).length:Int) ∧ ((g.getD 0 default).length:Int) ≤ 5
    · have c3:¬ ((g.getD 0 default).length:Int) < 1:=by omega
      have c4:¬ 5 < ((g.getD 0 default).length:Int):=by omega
      refine Zaaw Tryd.func19 rfl (Nat.le_of_ble_eq_true rfl) (hS.no rfl _ _) ?_
      rw [Tryd.ntmps19,Tryd.results19]
      repeat' (first | (with_reducible refine Zace (fun h => ?_) (fun h => ?_)) | (with_reducible refine Zacd (fun h => ?_) (fun h => ?_)) | (with_reducible refine sxIfB_sp (fun h => ?_) (fun h => ?_)) | simp only [↓Zabr,↓Zabo,↓Zabq,↓Zaag,↓Zaah,↓Zabl,↓Zabp,↓Zaci,↓Zach,↓Zacn,↓Zaav,↓Zaar,↓Zaaj,↓Zaas,↓Zaaq,↓Zaak,↓Zaao,↓Zaap,↓bxPut,↓Zabj,↓Zabk,↓Zabh,↓Zacl,↓Zacm,↓Zaco,↓Zaba,↓Zaay,↓dstAt,↓Zabb,Zacj,Zaad,Zabc,Zaab,Zacc,Zacf,Zabf,↓reduceIte,Nat.reduceEqDiff,Nat.reduceLT,dec_F,one1,Option.bind_some, *,argF,List.getD_cons_zero,lenI,lenG,ldIs])
      refine sxL_of (fun m ρ H2 => ∃ i:Nat,m = g.length - i ∧ i ≤ g.length ∧ (∀ k,k < i → rowOk g (g.getD k default)) ∧ H2 = H ∧ ρ 0 = .slice a g.length c ∧ ρ 3 = .int .i64 i) ⟨0,rfl,Nat.zero_le _,fun k hk => absurd hk (Nat.not_lt_zero k),rfl,rfl,rfl⟩ ?_
      rintro m ρ H2 ⟨i,rfl,hi,hall,rfl,e0,e3⟩;refine shieldG fun P hP => ?_
      by_cases hil:i = g.length
      · have hc:¬ (i:Int) < (g.length:Int):=by omega
        have hfin:IsG g:=⟨h1,h2,all_of (d:=default) (by rw [← hil]; exact hall)⟩
        clear hg hil hi hall h1 h2 hy;subst hP
        repeat' (first | (with_reducible refine Zace (fun h => ?_) (fun h => ?_)) | (with_reducible refine Zacd (fun h => ?_) (fun h => ?_)) | (with_reducible refine sxIfB_sp (fun h => ?_) (fun h => ?_)) | simp only [↓Zabr,↓Zabm,↓Zabo,↓Zabq,↓Zaag,↓Zaah,↓Zabl,↓Zabn,↓Zabp,↓Zaci,↓Zach,↓Zacb,↓Zaai,↓Zabz,↓Zaby,↓sxDL_binOp,↓Zabx,↓Zacn,↓Zaar,↓Zaaj,↓Zaaq,↓Zaak,↓Zaao,↓Zaap,↓bxPut,↓Zabj,↓Zabi,↓Zabk,↓blockQ_ret,↓Zaae,↓Zabe,↓Zabd,↓loopQ_ret,↓Zabh,↓Zacl,↓Zacm,↓Zaco,↓Zaba,↓Zaay,Zacj,Zaad,Zabc,Zacf,Zabf,↓reduceIte,Nat.reduceEqDiff,Nat.reduceLT,dec_T,dec_F,and_self, *,lenG] | (with_reducible first | refine Zabu (by assumption) (by decide +kernel) ?_ | refine Zabt (by decide +kernel) ?_ | refine Zaca (by decide +kernel) ?_ | refine Zabv ?_))
        all_goals exact bool_t hfin
      · have hc:(i:Int) < (g.length:Int):=by omega
        have hlt:i < g.length:=by omega
        have hob:=SlG_at hg hlt;obtain ⟨ixi,x,rx,ox,rdi,hx⟩:=hob;have hv:=hx.v0;obtain ⟨a3,c3',rfl⟩:=hv;have w5:=wrap_succ hlt hg.ml
        by_cases hl:(g.getD i default).length = (g.getD 0 default).length
        · have hl':(((g.getD i default).length:Int) = ((g.getD 0 default).length:Int)) = True:=eq_true (by omega)
          have hmem:g.getD i default ∈ g:=getD_mem hlt;have hobx:∃ x,g.getD i default = x:=⟨_,rfl⟩;obtain ⟨x,hxe⟩:=hobx;rw [hxe] at hl hl' hmem hx rdi;clear h1 hy;subst hP
          repeat' (first | (with_reducible refine Zace (fun h => ?_) (fun h => ?_)) | (with_reducible refine Zacd (fun h => ?_) (fun h => ?_)) | (with_reducible refine sxIfB_sp (fun h => ?_) (fun h => ?_)) | simp only [↓Zabr,↓Zabm,↓Zabo,↓Zabq,↓Zaag,↓Zaah,↓Zabl,↓Zabn,↓Zabp,↓Zaci,↓Zach,↓Zacb,↓Zaai,↓Zabz,↓Zaby,↓sxDL_binOp,↓Zabx,↓sxD_same,↓Zacn,↓Zaar,↓Zaaj,↓Zaaq,↓Zaak,↓Zaao,↓Zaap,↓bxPut,↓Zabj,↓Zabi,↓Zabk,↓blockQ_ret,↓Zaae,↓Zabe,↓Zabd,↓loopQ_ret,↓Zabh,↓Zacl,↓Zacm,↓Zaco,↓Zaba,↓Zaay,Zacj,Zaad,Zabc,Zacg,Zacf,Zabf,↓reduceIte,Nat.reduceEqDiff,Nat.reduceLT,dec_T,dec_F,Zaaa,one1,Option.bind_some,not_true_eq_false, *,lenG,lenI,ldIs] | (with_reducible first | refine Zabu (by assumption) (by decide +kernel) ?_ | refine Zabt (by decide +kernel) ?_ | refine Zaca (by decide +kernel) ?_ | refine Zabv ?_))
          refine sxL_of (fun m ρ H3 => ∃ j:Nat,m = x.length - j ∧ j ≤ x.length ∧ (∀ k,k < j → -100 ≤ x.getD k 0 ∧ x.getD k 0 ≤ 100) ∧ H3 = H2 ∧ ρ 0 = .slice a g.length c ∧ ρ 3 = .int .i64 i ∧ ρ 4 = .int .i64 j) ⟨0,rfl,Nat.zero_le _,fun k hk => absurd hk (Nat.not_lt_zero k),rfl,e0,e3,rfl⟩ ?_
          rintro m ρ H3 ⟨j,rfl,hj,hall2,rfl,e0,e3,e4⟩;refine shieldG fun P hP => ?_
          by_cases hjl:j = x.length
          · have hc2:¬ (j:Int) < (x.length:Int):=by omega
            have hrow:rowOk g x:=⟨hl,all_of (d:=0) (by rw [← hjl]; exact hall2)⟩
            have hall3:∀ k,k < i + 1 → rowOk g (g.getD k default):=fun k hk => by
              rcases Nat.lt_or_ge k i with h | h
              · exact hall k h
              · rw [show k = i by omega,hxe]; exact hrow
            clear hg hjl hj hall2 hx h2 hil hl hl' hmem hall hrow;subst hP
            repeat' (first | (with_reducible refine Zace (fun h => ?_) (fun h => ?_)) | (with_reducible refine Zacd (fun h => ?_) (fun h => ?_)) | (with_reducible refine sxIfB_sp (fun h => ?_) (fun h => ?_)) | simp only [↓Zabr,↓Zabo,↓Zabq,↓Zaag,↓Zabl,↓Zabn,↓Zabp,↓Zaci,↓Zach,↓Zacn,↓Zaav,↓Zaar,↓Zaaj,↓Zaas,↓Zaaq,↓Zaak,↓Zaao,↓Zaap,↓bxPut,↓Zabj,↓Zabi,↓Zabk,↓Zaaf,↓blockQ_ret,↓Zaae,↓Zabe,↓Zabd,↓loopQ_ret,↓Zabh,↓Zacl,↓Zacm,↓Zaco,↓Zaba,↓Zaay,↓dstAt,↓Zabb,Zacj,Zaad,Zabc,Zacf,Zabf,↓reduceIte,Nat.reduceEqDiff,Nat.reduceLT,dec_F,true_and,one1,Option.bind_some, *,lenI,ldIs])
            exact ⟨_,by omega,i + 1,rfl,by omega,hall3,rfl⟩
          · have hc2:(j:Int) < (x.length:Int):=by omega
            have hlt2:j < x.length:=by omega
            have p1:=SlI_ix hx hlt2;have p2:=(hx.rdI hlt2).1;have w6:=wrap_succ hlt2 hx.ml;have hxm:x.getD j 0 ∈ x:=getD_mem hlt2;have hn1:x.getD j 0 < -100 → ¬ IsG g:=fun h h2 => by have:=(h2.2.2 x hmem).2 _ hxm; omega
            have hn2:100 < x.getD j 0 → ¬ IsG g:=fun h h2 => by have:=(h2.2.2 x hmem).2 _ hxm; omega
            clear hg hx h2 hil hl hl' hmem hjl;subst hP
            by_cases q1:x.getD j 0 < -100
            · have hn:=hn1 q1;clear hn1 hn2 hall hall2
              repeat' (first | (with_reducible refine Zace (fun h => ?_) (fun h => ?_)) | (with_reducible refine Zacd (fun h => ?_) (fun h => ?_)) | (with_reducible refine sxIfB_sp (fun h => ?_) (fun h => ?_)) | simp only [↓Zabr,↓Zabo,↓Zabq,↓Zaag,↓Zabl,↓Zabn,↓Zabp,↓Zaci,↓Zach,↓Zacn,↓Zaav,↓Zaar,↓Zaaj,↓Zaas,↓Zaaq,↓Zaak,↓Zaao,↓Zaap,↓bxPut,↓Zabj,↓Zabi,↓Zabk,↓Zaaf,↓blockQ_ret,↓Zaae,↓Zabe,↓Zabd,↓loopQ_ret,↓Zabh,↓Zacl,↓Zacm,↓Zaco,↓Zaba,↓Zaay,↓dstAt,↓Zabb,Zacj,Zaad,Zabc,Zaac,sxGuardB_ft,Zacg,Zabf,↓reduceIte,Nat.reduceEqDiff,Nat.reduceLT,dec_T,dec_F,and_self,one1,Option.bind_some, *,lenI,ldI,ldIs])
              all_goals exact bool_f hn
            · by_cases q2:100 < x.getD j 0
              · have hn:=hn2 q2;clear hn1 hn2 hall hall2
                repeat' (first | (with_reducible refine Zace (fun h => ?_) (fun h => ?_)) | (with_reducible refine Zacd (fun h => ?_) (fun h => ?_)) | (with_reducible refine sxIfB_sp (fun h => ?_) (fun h => ?_)) | simp only [↓Zabr,↓Zabo,↓Zabq,↓Zaag,↓Zabl,↓Zabn,↓Zabp,↓Zaci,↓Zach,↓Zacn,↓Zaav,↓Zaar,↓Zaaj,↓Zaas,↓Zaaq,↓Zaak,↓Zaao,↓Zaap,↓bxPut,↓Zabj,↓Zabi,↓Zabk,↓Zaaf,↓blockQ_ret,↓Zaae,↓Zabe,↓Zabd,↓loopQ_ret,↓Zabh,↓Zacl,↓Zacm,↓Zaco,↓Zaba,↓Zaay,↓dstAt,↓Zabb,Zacj,Zaad,Zabc,Zaab,Zacc,Zacg,Zabf,↓reduceIte,Nat.reduceEqDiff,Nat.reduceLT,dec_T,dec_F,and_self,one1,Option.bind_some, *,lenI,ldI,ldIs])
                all_goals exact bool_f hn
              · have hall3:∀ k,k < j + 1 → -100 ≤ x.getD k 0 ∧ x.getD k 0 ≤ 100:=fun k hk => by
                  rcases Nat.lt_or_ge k j with h | h
                  · exact hall2 k h
                  · rw [show k = j by omega]; omega
                clear hn1 hn2 hall hall2
                repeat' (first | (with_reducible refine Zace (fun h => ?_) (fun h => ?_)) | (with_reducible refine Zacd (fun h => ?_) (fun h => ?_)) | (with_reducible refine sxIfB_sp (fun h => ?_) (fun h => ?_)) | simp only [↓Zabr,↓Zabo,↓Zabq,↓Zaag,↓Zabl,↓Zabn,↓Zabp,↓Zaci,↓Zach,↓Zacn,↓Zaav,↓Zaar,↓Zaaj,↓Zaas,↓Zaaq,↓Zaak,↓Zaao,↓Zaap,↓bxPut,↓Zabj,↓Zabi,↓Zabk,↓Zaaf,↓blockQ_ret,↓Zaae,↓Zabe,↓Zabd,↓loopQ_ret,↓Zabh,↓Zacl,↓Zacm,↓Zaco,↓Zaba,↓Zaay,↓dstAt,↓Zabb,Zacj,Zaad,Zabc,Zaab,Zacc,Zacg,Zacf,Zabf,↓reduceIte,Nat.reduceEqDiff,Nat.reduceLT,dec_T,dec_F,true_and,one1,Option.bind_some, *,lenI,ldI,ldIs])
                exact ⟨_,by omega,j + 1,rfl,by omega,hall3,rfl⟩
        · have hl':¬ ((g.getD i default).length:Int) = ((g.getD 0 default).length:Int):=by omega
          have hn:¬ IsG g:=fun h => hl (h.2.2 _ (getD_mem hlt)).1
          clear hg hy hx h1 h2 hil hl hall;subst hP
          repeat' (first | (with_reducible refine Zace (fun h => ?_) (fun h => ?_)) | (with_reducible refine Zacd (fun h => ?_) (fun h => ?_)) | (with_reducible refine sxIfB_sp (fun h => ?_) (fun h => ?_)) | simp only [↓Zabr,↓Zabm,↓Zabo,↓Zabq,↓Zaag,↓Zaah,↓Zabl,↓Zabn,↓Zabp,↓Zaci,↓Zach,↓Zacb,↓Zaai,↓Zabz,↓Zaby,↓sxDL_binOp,↓Zabx,↓sxD_same,↓Zacn,↓Zaar,↓Zaaj,↓Zaaq,↓Zaak,↓Zaao,↓Zaap,↓bxPut,↓Zabj,↓Zabi,↓Zabk,↓blockQ_ret,↓Zaae,↓Zabe,↓Zabd,↓loopQ_ret,↓Zabh,↓Zacl,↓Zacm,↓Zaco,↓Zaba,↓Zaay,Zacj,Zaad,Zabc,Zacg,Zabf,↓reduceIte,Nat.reduceEqDiff,Nat.reduceLT,dec_T,dec_F,true_and,Zaaa,one1,Option.bind_some,not_false_eq_true, *,lenG,lenI,ldIs] | (with_reducible first | refine Zabu (by assumption) (by decide +kernel) ?_ | refine Zabt (by decide +kernel) ?_ | refine Zaca (by decide +kernel) ?_ | refine Zabv ?_))
          all_goals exact bool_f hn
    · have hfin:¬ IsG g:=fun h => h2 h.2.1
      refine Zaaw Tryd.func19 rfl (Nat.le_of_ble_eq_true rfl) (hS.no rfl _ _) ?_
      rw [Tryd.ntmps19,Tryd.results19];clear hg hy h1
      repeat' (first | (with_reducible refine Zace (fun h => ?_) (fun h => ?_)) | (with_reducible refine Zacd (fun h => ?_) (fun h => ?_)) | (with_reducible refine sxIfB_sp (fun h => ?_) (fun h => ?_)) | simp only [↓Zabr,↓Zabo,↓Zabq,↓Zaag,↓Zaah,↓Zabl,↓Zabp,↓Zaci,↓Zach,↓Zacn,↓Zaav,↓Zaar,↓Zaaj,↓Zaas,↓Zaaq,↓Zaak,↓Zaao,↓Zaap,↓bxPut,↓Zabj,↓Zabk,↓Zabh,↓Zacl,↓Zacm,↓Zaco,↓Zaba,↓Zaay,↓dstAt,↓Zabb,Zacj,Zaad,Zabc,Zaac,Zaab,sxGuardB_ft,Zacc,Zacg,Zabf,↓reduceIte,Nat.reduceEqDiff,Nat.reduceLT,dec_T,dec_F,and_self,one1,Option.bind_some, *,argF,List.getD_cons_zero,lenI,lenG,ldIs])
      all_goals first
        | exact bool_f hfin
        | (exfalso; omega)
  · have hfin:¬ IsG g:=fun h => h1 h.1
    refine Zaaw Tryd.func19 rfl (Nat.le_of_ble_eq_true rfl) (hS.no rfl _ _) ?_
    rw [Tryd.ntmps19,Tryd.results19];clear hg
    by_cases h3:(g.length:Int) < 1
    · clear h1
      repeat' (first | (with_reducible refine Zace (fun h => ?_) (fun h => ?_)) | (with_reducible refine Zacd (fun h => ?_) (fun h => ?_)) | (with_reducible refine sxIfB_sp (fun h => ?_) (fun h => ?_)) | simp only [↓Zabr,↓Zabo,↓Zabq,↓Zaag,↓Zaah,↓Zabl,↓Zabp,↓Zaci,↓Zach,↓Zacn,↓Zaav,↓Zaar,↓Zaaj,↓Zaas,↓Zaaq,↓Zaak,↓Zaao,↓Zaap,↓bxPut,↓Zabj,↓Zabk,↓Zabh,↓Zacl,↓Zacm,↓Zaco,↓Zaba,↓Zaay,↓dstAt,↓Zabb,Zacj,Zaad,Zabc,Zaac,sxGuardB_ft,Zacg,Zabf,↓reduceIte,Nat.reduceEqDiff,Nat.reduceLT,dec_T,dec_F,and_self, *,argF,List.getD_cons_zero,lenG])
      all_goals exact bool_f hfin
    · have h4:5 < (g.length:Int):=by omega
      clear h1
      repeat' (first | (with_reducible refine Zace (fun h => ?_) (fun h => ?_)) | (with_reducible refine Zacd (fun h => ?_) (fun h => ?_)) | (with_reducible refine sxIfB_sp (fun h => ?_) (fun h => ?_)) | simp only [↓Zabr,↓Zabo,↓Zabq,↓Zaag,↓Zaah,↓Zabl,↓Zabp,↓Zaci,↓Zach,↓Zacn,↓Zaav,↓Zaar,↓Zaaj,↓Zaas,↓Zaaq,↓Zaak,↓Zaao,↓Zaap,↓bxPut,↓Zabj,↓Zabk,↓Zabh,↓Zacl,↓Zacm,↓Zaco,↓Zaba,↓Zaay,↓dstAt,↓Zabb,Zacj,Zaad,Zabc,Zaac,Zaab,sxGuardB_ft,Zacc,Zacg,Zabf,↓reduceIte,Nat.reduceEqDiff,Nat.reduceLT,dec_T,dec_F,and_self, *,argF,List.getD_cons_zero,lenG])
      all_goals exact bool_f hfin
end Go.Proofs.YtdfjaoncabanbaaDoor
