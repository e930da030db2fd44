/- The least of some numbers; where a number stands first. -/
import Derived.Test.YtdfjaoncabanbaaDoorJ0
set_option linter.unusedVariables false
set_option linter.unusedSimpArgs false
set_option linter.unusedSectionVars false

namespace Go.Proofs.YtdfjaoncabanbaaDoor
open Go Go.AM
set_option maxRecDepth 10000

def Arg (f:Nat → Int) (n b:Nat):Prop:=b < n ∧ (∀ k,k < n → f b ≤ f k) ∧ ∀ k,k < b → f b < f k
theorem Arg.one {f:Nat → Int}:Arg f 1 0:=by
  refine ⟨Nat.lt_succ_self 0,fun k hk => ?_,fun k hk => absurd hk (Nat.not_lt_zero k)⟩
  have:k = 0:=by omega
  subst this; exact Int.le_refl _
theorem Arg.less {f:Nat → Int} {n b:Nat} (h:Arg f n b) (hl:f n < f b):Arg f (n + 1) n:=⟨Nat.lt_succ_self n,fun k hk => by
  rcases Nat.lt_or_ge k n with h1 | h1
  · have:=h.2.1 k h1; omega
  · have:k = n:=by omega
    subst this; exact Int.le_refl _,fun k hk => by have:=h.2.1 k hk; omega⟩
theorem Arg.stay {f:Nat → Int} {n b:Nat} (h:Arg f n b) (hl:f b ≤ f n):Arg f (n + 1) b:=⟨Nat.lt_succ_of_lt h.1,fun k hk => by
  rcases Nat.lt_or_ge k n with h1 | h1
  · exact h.2.1 k h1
  · have:k = n:=by omega
    subst this; exact hl,h.2.2⟩

variable {S:AM.Sys} (hS:Only S 5)
include hS

theorem minI_runs (v:Value) (w:List Int) (r o:Nat) (H:Heap) (hL:H.low ≤ H.size) (hl:SlI .i64 H v w r o) (h0:0 < w.length) (hn:w.length ≤ 1000) :
    ∃ b,Arg (fun k => w.getD k 0) w.length b ∧ Runs Tryd.prog S (.fn 14) [v] H (.int .i64 (w.getD b 0)) H:=by
  suffices h:WCall Tryd.prog S (.fn 14) [v] H (fun u H' => ∃ b,Arg (fun k => w.getD k 0) w.length b ∧ u = .int .i64 (w.getD b 0) ∧ H' = H) by
    obtain ⟨_,_,hr,b,h1,rfl,rfl⟩:=h; exact ⟨b,h1,hr⟩
  obtain ⟨a,cap,rfl⟩:=hl.v0;refine Zaaw Tryd.func14 rfl (Nat.le_of_ble_eq_true rfl) (hS.no rfl _ _) ?_
  rw [Tryd.ntmps14,Tryd.results14];have hlt0:¬ (w.length:Int) < 1:=by omega
  have ix0:aIndexAt Tryd.prog 25 (.slice a w.length cap) (.int .i64 0) = some (.pointer (some ⟨r,o,none⟩)):=SlI_ix hl h0;have rd0:H.read r o 1 = some [.int .i64 (w.getD 0 0)]:=(hl.rdI h0).1
  repeat' simp only [↓Zabr,↓Zabo,↓Zabq,↓Zaag,↓Zaah,↓Zabl,↓Zabp,↓Zaci,↓Zach,↓Zacn,↓Zaar,↓Zaaj,↓Zaaq,↓Zaak,↓bxOp_makeI,↓Zaao,↓Zaap,↓Zack,↓bxPut,↓Zabj,↓Zabh,↓Zacl,↓Zacm,↓Zaco,↓Zaba,↓Zaay,Zacj,Zaad,Zabc,Zacf,Zabf,↓reduceIte,Nat.reduceEqDiff,Nat.reduceLT,dec_F,one1,Option.bind_some, *,argF,List.getD_cons_zero,lenI,ldI]
  refine sxL_of (fun m ρ X => ∃ k b:Nat,m = w.length - k ∧ k ≤ w.length ∧ Arg (fun j => w.getD j 0) k b ∧ X = H ∧ ρ 0 = .slice a w.length cap ∧ ρ 3 = .int .i64 (w.getD b 0) ∧ ρ 4 = .int .i64 (k:Int))
    ⟨1,0,rfl,h0,Arg.one,rfl,rfl,rfl,rfl⟩ ?_
  clear ix0 rd0 hlt0;rintro m ρ X ⟨k,b,rfl,hk,har,rfl,e0,e3,e4⟩
  by_cases hkl:k < w.length
  case neg =>
    have hlt:¬ (k:Int) < (w.length:Int):=by omega
    have hke:k = w.length:=by omega
    rw [hke] at har;have hpo:∃ c,Arg (fun k => w.getD k 0) w.length c ∧ Value.int .i64 (w.getD b 0) = Value.int .i64 (w.getD c 0):=⟨b,har,rfl⟩
    clear hl hke hkl hk har
    repeat' simp only [↓Zabr,↓Zabo,↓Zabq,↓Zaag,↓Zabl,↓Zabn,↓Zaci,↓Zach,↓Zacn,↓Zaar,↓Zaaj,↓Zaaq,↓Zaak,↓Zaao,↓Zaap,↓bxOp_min,↓bxPut,↓Zabj,↓Zabi,↓Zaaf,↓Zaae,↓Zabe,↓Zabd,↓Zaco,↓Zaba,↓Zaay,Zacj,Zaad,Zabc,Zacf,↓reduceIte,Nat.reduceEqDiff,Nat.reduceLT,dec_F,and_true, *,lenI]
  have hlt:(k:Int) < (w.length:Int):=by omega
  have hw:IntKind.i64.wrap ((k:Int) + 1) = ((k + 1:Nat):Int):=IntWalk.i64_in _ (by omega)
  have ixk:=SlI_ix hl hkl;have rdk:=(hl.rdI hkl).1
  by_cases hc:w.getD k 0 < w.getD b 0
  · have hmn:Value.int .i64 (if w.getD k 0 < w.getD b 0 then w.getD k 0 else w.getD b 0) = .int .i64 (w.getD k 0):=by rw [if_pos hc]
    have har2:=har.less hc;clear hl hc har
    repeat' simp only [↓Zabr,↓Zabo,↓Zabq,↓Zaag,↓Zabl,↓Zabn,↓Zaci,↓Zach,↓Zacn,↓Zaar,↓Zaaj,↓Zaaq,↓Zaak,↓Zaao,↓Zaap,↓bxOp_min,↓bxPut,↓Zabj,↓Zabi,↓Zaaf,↓Zaae,↓Zabe,↓Zabd,↓Zaco,↓Zaba,↓Zaay,Zacj,mm_min,Zaad,Zabc,Zacg,↓reduceIte,Nat.reduceEqDiff,Nat.reduceLT,dec_T,true_and,one1,Option.bind_some, *,lenI,ldI]
    exact ⟨w.length - (k + 1),by omega,k + 1,k,rfl,by omega,har2,rfl,rfl⟩
  · have hmn:Value.int .i64 (if w.getD k 0 < w.getD b 0 then w.getD k 0 else w.getD b 0) = .int .i64 (w.getD b 0):=by rw [if_neg hc]
    have har2:=har.stay (by omega)
    clear hl hc har
    repeat' simp only [↓Zabr,↓Zabo,↓Zabq,↓Zaag,↓Zabl,↓Zabn,↓Zaci,↓Zach,↓Zacn,↓Zaar,↓Zaaj,↓Zaaq,↓Zaak,↓Zaao,↓Zaap,↓bxOp_min,↓bxPut,↓Zabj,↓Zabi,↓Zaaf,↓Zaae,↓Zabe,↓Zabd,↓Zaco,↓Zaba,↓Zaay,Zacj,mm_min,Zaad,Zabc,Zacg,↓reduceIte,Nat.reduceEqDiff,Nat.reduceLT,dec_T,true_and,one1,Option.bind_some, *,lenI,ldI]
    exact ⟨w.length - (k + 1),by omega,k + 1,b,rfl,by omega,har2,rfl,rfl⟩

theorem maxI_runs (v:Value) (w:List Int) (r o:Nat) (H:Heap) (hL:H.low ≤ H.size) (hl:SlI .i64 H v w r o) (h0:0 < w.length) (hn:w.length ≤ 1000) :
    ∃ b,Arg (fun k => - w.getD k 0) w.length b ∧ Runs Tryd.prog S (.fn 17) [v] H (.int .i64 (w.getD b 0)) H:=by
  suffices h:WCall Tryd.prog S (.fn 17) [v] H (fun u H' => ∃ b,Arg (fun k => - w.getD k 0) w.length b ∧ u = .int .i64 (w.getD b 0) ∧ H' = H) by
    obtain ⟨_,_,hr,b,h1,rfl,rfl⟩:=h; exact ⟨b,h1,hr⟩
  obtain ⟨a,cap,rfl⟩:=hl.v0;refine Zaaw Tryd.func17 rfl (Nat.le_of_ble_eq_true rfl) (hS.no rfl _ _) ?_
  rw [Tryd.ntmps17,Tryd.results17];have hlt0:¬ (w.length:Int) < 1:=by omega
  have ix0:aIndexAt Tryd.prog 25 (.slice a w.length cap) (.int .i64 0) = some (.pointer (some ⟨r,o,none⟩)):=SlI_ix hl h0;have rd0:H.read r o 1 = some [.int .i64 (w.getD 0 0)]:=(hl.rdI h0).1
  repeat' simp only [↓Zabr,↓Zabo,↓Zabq,↓Zaag,↓Zaah,↓Zabl,↓Zabp,↓Zaci,↓Zach,↓Zacn,↓Zaar,↓Zaaj,↓Zaaq,↓Zaak,↓bxOp_makeI,↓Zaao,↓Zaap,↓Zack,↓bxPut,↓Zabj,↓Zabh,↓Zacl,↓Zacm,↓Zaco,↓Zaba,↓Zaay,Zacj,Zaad,Zabc,Zacf,Zabf,↓reduceIte,Nat.reduceEqDiff,Nat.reduceLT,dec_F,one1,Option.bind_some, *,argF,List.getD_cons_zero,lenI,ldI]
  refine sxL_of (fun m ρ X => ∃ k b:Nat,m = w.length - k ∧ k ≤ w.length ∧ Arg (fun j => - w.getD j 0) k b ∧ X = H ∧ ρ 0 = .slice a w.length cap ∧ ρ 3 = .int .i64 (w.getD b 0) ∧ ρ 4 = .int .i64 (k:Int))
    ⟨1,0,rfl,h0,Arg.one,rfl,rfl,rfl,rfl⟩ ?_
  clear ix0 rd0 hlt0;rintro m ρ X ⟨k,b,rfl,hk,har,rfl,e0,e3,e4⟩
  by_cases hkl:k < w.length
  case neg =>
    have hlt:¬ (k:Int) < (w.length:Int):=by omega
    have hke:k = w.length:=by omega
    rw [hke] at har;have hpo:∃ c,Arg (fun k => - w.getD k 0) w.length c ∧ Value.int .i64 (w.getD b 0) = Value.int .i64 (w.getD c 0):=⟨b,har,rfl⟩
    clear hl hke hkl hk har
    repeat' simp only [↓Zabr,↓Zabo,↓Zabq,↓Zaag,↓Zabl,↓Zabn,↓Zaci,↓Zach,↓Zacn,↓Zaar,↓Zaaj,↓Zaaq,↓Zaak,↓Zaao,↓Zaap,↓bxOp_max,↓bxPut,↓Zabj,↓Zabi,↓Zaaf,↓Zaae,↓Zabe,↓Zabd,↓Zaco,↓Zaba,↓Zaay,Zacj,Zaad,Zabc,Zacf,↓reduceIte,Nat.reduceEqDiff,Nat.reduceLT,dec_F,and_true, *,lenI]
  have hlt:(k:Int) < (w.length:Int):=by omega
  have hw:IntKind.i64.wrap ((k:Int) + 1) = ((k + 1:Nat):Int):=IntWalk.i64_in _ (by omega)
  have ixk:=SlI_ix hl hkl;have rdk:=(hl.rdI hkl).1
  by_cases hc:w.getD b 0 < w.getD k 0
  · have hmn:Value.int .i64 (if w.getD b 0 < w.getD k 0 then w.getD k 0 else w.getD b 0) = .int .i64 (w.getD k 0):=by rw [if_pos hc]
    have har2:=har.less (show - w.getD k 0 < - w.getD b 0 by omega)
    clear hl hc har
    repeat' simp only [↓Zabr,↓Zabo,↓Zabq,↓Zaag,↓Zabl,↓Zabn,↓Zaci,↓Zach,↓Zacn,↓Zaar,↓Zaaj,↓Zaaq,↓Zaak,↓Zaao,↓Zaap,↓bxOp_max,↓bxPut,↓Zabj,↓Zabi,↓Zaaf,↓Zaae,↓Zabe,↓Zabd,↓Zaco,↓Zaba,↓Zaay,Zacj,mm_max,Zaad,Zabc,Zacg,↓reduceIte,Nat.reduceEqDiff,Nat.reduceLT,dec_T,true_and,one1,Option.bind_some, *,lenI,ldI]
    exact ⟨w.length - (k + 1),by omega,k + 1,k,rfl,by omega,har2,rfl,rfl⟩
  · have hmn:Value.int .i64 (if w.getD b 0 < w.getD k 0 then w.getD k 0 else w.getD b 0) = .int .i64 (w.getD b 0):=by rw [if_neg hc]
    have har2:=har.stay (show - w.getD b 0 ≤ - w.getD k 0 by omega)
    clear hl hc har
    repeat' simp only [↓Zabr,↓Zabo,↓Zabq,↓Zaag,↓Zabl,↓Zabn,↓Zaci,↓Zach,↓Zacn,↓Zaar,↓Zaaj,↓Zaaq,↓Zaak,↓Zaao,↓Zaap,↓bxOp_max,↓bxPut,↓Zabj,↓Zabi,↓Zaaf,↓Zaae,↓Zabe,↓Zabd,↓Zaco,↓Zaba,↓Zaay,Zacj,mm_max,Zaad,Zabc,Zacg,↓reduceIte,Nat.reduceEqDiff,Nat.reduceLT,dec_T,true_and,one1,Option.bind_some, *,lenI,ldI]
    exact ⟨w.length - (k + 1),by omega,k + 1,b,rfl,by omega,har2,rfl,rfl⟩
end Go.Proofs.YtdfjaoncabanbaaDoor

namespace Go.Proofs.YtdfjaoncabanbaaDoor
open Go Go.AM
set_option maxRecDepth 10000

def colS (g:List (List Int)) (x:List Int) (j:Nat):Int:=dotL (colT g j g.length) x x.length
def AnsOk (g:List (List Int)) (x:List Int) (dx:Int):Prop:=IsG g ∧ Mix x dx (g.length:Int) 2199023255552
instance (g:List (List Int)) (x:List Int) (dx:Int):Decidable (AnsOk g x dx):=by unfold AnsOk; infer_instance
theorem ans_rng {g:List (List Int)} {x:List Int} {dx:Int} (h:AnsOk g x dx):x.length = g.length ∧ g.length ≤ 5 ∧ 0 < g.length ∧ (1 ≤ dx ∧ dx ≤ 2199023255552) ∧ 0 < (g.getD 0 default).length ∧ (g.getD 0 default).length ≤ 5 ∧ (∀ i,i < g.length → (g.getD i []).length = (g.getD 0 default).length) ∧
    (∀ p j,p < g.length → j < (g.getD 0 default).length → -219902325555200 ≤ (g.getD p []).getD j 0 * x.getD p 0 ∧ (g.getD p []).getD j 0 * x.getD p 0 ≤ 219902325555200):=by
  obtain ⟨⟨g1,g2,g3⟩,⟨a1,a2,a3,_⟩⟩:=h;refine ⟨by omega,by omega,by omega,a2,by omega,by omega,fun i hi => (g3 _ (getD_mem (d:=[]) hi)).1,fun p j hp hj => ?_⟩
  have h1:=g3 _ (getD_mem (d:=[]) hp);have h2:=h1.2 _ (getD_mem (d:=0) (show j < (g.getD p []).length by have:=h1.1; omega))
  have h3:=a3 _ (getD_mem (d:=0) (show p < x.length by omega))
  have h4:(g.getD p []).getD j 0 * x.getD p 0 ≤ 100 * 2199023255552:=by
    rcases Int.le_total 0 ((g.getD p []).getD j 0) with h | h
    · exact Int.mul_le_mul h2.2 (by omega) h3.1 (by decide)
    · have:=Int.mul_nonpos_of_nonpos_of_nonneg h h3.1; omega
  have h5:-(g.getD p []).getD j 0 * x.getD p 0 ≤ 100 * 2199023255552:=by
    rcases Int.le_total 0 ((g.getD p []).getD j 0) with h | h
    · have:=Int.mul_nonpos_of_nonpos_of_nonneg (show -(g.getD p []).getD j 0 ≤ 0 by omega) h3.1; omega
    · exact Int.mul_le_mul (by omega) (by omega) h3.1 (by decide)
  rw [Int.neg_mul] at h5;omega
theorem colS_rng {g:List (List Int)} {x:List Int} {dx:Int} (h:AnsOk g x dx) {j:Nat} (hj:j < (g.getD 0 default).length):-2199023255552000 ≤ colS g x j ∧ colS g x j ≤ 2199023255552000:=by
  obtain ⟨a1,a2,a3,a4,a5,a6,a7,a8⟩:=ans_rng h;have q:∀ k,k ≤ x.length → -(219902325555200 * (k:Int)) ≤ dotL (colT g j g.length) x k ∧ dotL (colT g j g.length) x k ≤ 219902325555200 * (k:Int):=fun k => by
    induction k with
    | zero => intro _; simp [dotL]
    | succ k ih =>
      intro hk;have h1:=ih (by omega)
      have h2:=a8 k j (by omega) hj
      rw [dotL_succ,colT_at g j (show k < g.length by omega)]; omega
  have:=q x.length (Nat.le_refl _);unfold colS;omega

end Go.Proofs.YtdfjaoncabanbaaDoor
