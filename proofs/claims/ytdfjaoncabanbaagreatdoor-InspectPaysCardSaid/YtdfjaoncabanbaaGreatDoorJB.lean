/- The least of some numbers; where a number stands first. -/
import Derived.Test.YtdfjaoncabanbaaGreatDoorJA
set_option linter.unusedVariables false
set_option linter.unusedSimpArgs false
set_option linter.unusedSectionVars false

namespace Go.Proofs.YtdfjaoncabanbaaGreatDoor
open Go Go.AM
set_option maxRecDepth 10000

def Arg (f:Nat → Int) (n b:Nat):Prop:=b < n ∧ (∀ k,k < n → f b ≤ f k) ∧ ∀ k,k < b → f b < f k
theorem Arg.uniq {f:Nat → Int} {n a b:Nat} (h:Arg f n a) (k:Arg f n b):a = b:=by
  rcases Nat.lt_trichotomy a b with h1 | h1 | h1
  · have:=k.2.2 a h1; have:=h.2.1 b k.1; omega
  · exact h1
  · have:=h.2.2 b h1; have:=k.2.1 a h.1; omega
theorem Arg.one {f:Nat → Int}:Arg f 1 0:=by
  refine ⟨Nat.lt_succ_self 0,fun k hk => ?_,fun k hk => absurd hk (Nat.not_lt_zero k)⟩
  have:k = 0:=by omega
  subst this; exact Int.le_refl _
theorem Arg.less {f:Nat → Int} {n b:Nat} (h:Arg f n b) (hl:f n < f b):Arg f (n + 1) n:=⟨Nat.lt_succ_self n,fun k hk => by
  rcases Nat.lt_or_ge k n with h1 | h1
  · have:=h.2.1 k h1; omega
  · have:k = n:=by omega
    subst this; exact Int.le_refl _,fun k hk => by have:=h.2.1 k hk; omega⟩
theorem Arg.stay {f:Nat → Int} {n b:Nat} (h:Arg f n b) (hl:f b ≤ f n):Arg f (n + 1) b:=⟨Nat.lt_succ_of_lt h.1,fun k hk => by
  rcases Nat.lt_or_ge k n with h1 | h1
  · exact h.2.1 k h1
  · have:k = n:=by omega
    subst this; exact hl,h.2.2⟩

variable {S:AM.Sys} (hS:Only S 5)
include hS

theorem minI_runs (v:Value) (w:List Int) (r o:Nat) (H:Heap) (hL:H.low ≤ H.size) (hl:SlI .i64 H v w r o) (h0:0 < w.length) (hn:w.length ≤ 1000) :
    ∃ b,Arg (fun k => w.getD k 0) w.length b ∧ Runs Tryz.prog S (.fn 26) [v] H (.int .i64 (w.getD b 0)) H:=by
  suffices h:WCall Tryz.prog S (.fn 26) [v] H (fun u H' => ∃ b,Arg (fun k => w.getD k 0) w.length b ∧ u = .int .i64 (w.getD b 0) ∧ H' = H) by
    obtain ⟨_,_,hr,b,h1,rfl,rfl⟩:=h; exact ⟨b,h1,hr⟩
  obtain ⟨a,cap,rfl⟩:=hl.v0;refine call_of Tryz.func26 rfl (Nat.le_of_ble_eq_true rfl) (hS.no rfl _ _) ?_
  rw [Tryz.ntmps26,Tryz.results26];have hlt0:¬ (w.length:Int) < 1:=by omega
  have ix0:aIndexAt Tryz.prog 23 (.slice a w.length cap) (.int .i64 0) = some (.pointer (some ⟨r,o,none⟩)):=SlI_ix hl h0;have rd0:H.read r o 1 = some [.int .i64 (w.getD 0 0)]:=(hl.rdI h0).1
  repeat' simp only [↓Zabr,↓Zabo,↓Zabq,↓Zaaf,↓Zaag,↓Zabl,↓Zabp,↓Zaci,↓Zach,↓Zacn,↓Zaar,↓Zaaj,↓Zaaq,↓Zaak,↓bxOp_makeI,↓Zaao,↓Zaap,↓Zack,↓bxPut,↓Zabj,↓Zabh,↓Zacl,↓Zacm,↓Zaco,↓Zaba,↓Zaay,Zacj,Zaac,Zabc,Zacf,Zabf,↓reduceIte,Nat.reduceEqDiff,Nat.reduceLT,dec_F,one1,Option.bind_some, *,argF,List.getD_cons_zero,lenI,ldI]
  refine sxL_of (fun m ρ X => ∃ k b:Nat,m = w.length - k ∧ k ≤ w.length ∧ Arg (fun j => w.getD j 0) k b ∧ X = H ∧ ρ 0 = .slice a w.length cap ∧ ρ 3 = .int .i64 (w.getD b 0) ∧ ρ 4 = .int .i64 (k:Int))
    ⟨1,0,rfl,h0,Arg.one,rfl,rfl,rfl,rfl⟩ ?_
  clear ix0 rd0 hlt0;rintro m ρ X ⟨k,b,rfl,hk,har,rfl,e0,e3,e4⟩
  by_cases hkl:k < w.length
  case neg =>
    have hlt:¬ (k:Int) < (w.length:Int):=by omega
    have hke:k = w.length:=by omega
    rw [hke] at har;have hpo:∃ c,Arg (fun k => w.getD k 0) w.length c ∧ Value.int .i64 (w.getD b 0) = Value.int .i64 (w.getD c 0):=⟨b,har,rfl⟩
    clear hl hke hkl hk har
    repeat' simp only [↓Zabr,↓Zabo,↓Zabq,↓Zaaf,↓Zabl,↓Zabn,↓Zaci,↓Zach,↓Zacn,↓Zaar,↓Zaaj,↓Zaaq,↓Zaak,↓Zaao,↓Zaap,↓bxOp_min,↓bxPut,↓Zabj,↓Zabi,↓Zaae,↓Zaad,↓Zabe,↓Zabd,↓Zaco,↓Zaba,↓Zaay,Zacj,Zaac,Zabc,Zacf,↓reduceIte,Nat.reduceEqDiff,Nat.reduceLT,dec_F,and_true, *,lenI]
  have hlt:(k:Int) < (w.length:Int):=by omega
  have hw:IntKind.i64.wrap ((k:Int) + 1) = ((k + 1:Nat):Int):=IntWalk.i64_in _ (by omega)
  have ixk:=SlI_ix hl hkl;have rdk:=(hl.rdI hkl).1
  by_cases hc:w.getD k 0 < w.getD b 0
  · have hmn:Value.int .i64 (if w.getD k 0 < w.getD b 0 then w.getD k 0 else w.getD b 0) = .int .i64 (w.getD k 0):=by rw [if_pos hc]
    have har2:=har.less hc;clear hl hc har
    repeat' simp only [↓Zabr,↓Zabo,↓Zabq,↓Zaaf,↓Zabl,↓Zabn,↓Zaci,↓Zach,↓Zacn,↓Zaar,↓Zaaj,↓Zaaq,↓Zaak,↓Zaao,↓Zaap,↓bxOp_min,↓bxPut,↓Zabj,↓Zabi,↓Zaae,↓Zaad,↓Zabe,↓Zabd,↓Zaco,↓Zaba,↓Zaay,Zacj,mm_min,Zaac,Zabc,Zacg,↓reduceIte,Nat.reduceEqDiff,Nat.reduceLT,dec_T,true_and,one1,Option.bind_some, *,lenI,ldI]
    exact ⟨w.length - (k + 1),by omega,k + 1,k,rfl,by omega,har2,rfl,rfl⟩
  · have hmn:Value.int .i64 (if w.getD k 0 < w.getD b 0 then w.getD k 0 else w.getD b 0) = .int .i64 (w.getD b 0):=by rw [if_neg hc]
    have har2:=har.stay (by omega)
    clear hl hc har
    repeat' simp only [↓Zabr,↓Zabo,↓Zabq,↓Zaaf,↓Zabl,↓Zabn,↓Zaci,↓Zach,↓Zacn,↓Zaar,↓Zaaj,↓Zaaq,↓Zaak,↓Zaao,↓Zaap,↓bxOp_min,↓bxPut,↓Zabj,↓Zabi,↓Zaae,↓Zaad,↓Zabe,↓Zabd,↓Zaco,↓Zaba,↓Zaay,Zacj,mm_min,Zaac,Zabc,Zacg,↓reduceIte,Nat.reduceEqDiff,Nat.reduceLT,dec_T,true_and,one1,Option.bind_some, *,lenI,ldI]
    exact ⟨w.length - (k + 1),by omega,k + 1,b,rfl,by omega,har2,rfl,rfl⟩

theorem idxI_runs (v:Value) (w:List Int) (r o:Nat) (H:Heap) (hL:H.low ≤ H.size) (hl:SlI .i64 H v w r o) (hn:w.length ≤ 1000) (b:Nat) (hb:Arg (fun k => w.getD k 0) w.length b) :
    Runs Tryz.prog S (.fn 27) [v,.int .i64 (w.getD b 0)] H (.int .i64 (b:Int)) H:=by
  suffices h:WCall Tryz.prog S (.fn 27) [v,.int .i64 (w.getD b 0)] H (fun u H' => u = .int .i64 (b:Int) ∧ H' = H) by
    obtain ⟨_,_,hr,rfl,rfl⟩:=h; exact hr
  obtain ⟨a,cap,rfl⟩:=hl.v0;refine call_of Tryz.func27 rfl (Nat.le_of_ble_eq_true rfl) (hS.no rfl _ _) ?_
  rw [Tryz.ntmps27,Tryz.results27]
  repeat' simp only [↓Zabo,↓Zabq,↓Zaag,↓Zabl,↓Zabp,↓Zaci,↓Zach,↓Zacn,↓Zaar,↓Zaaj,↓Zaap,↓bxPut,↓Zabj,↓Zabh,↓Zacl,↓Zacm,↓Zaco,↓Zaba,↓Zaay,Zacj,Zabf,↓reduceIte,Nat.reduceEqDiff,Nat.reduceLT, *,argF,List.getD_cons_zero,lenI]
  refine sxL_of (fun m ρ X => ∃ k:Nat,m = w.length - k ∧ k ≤ b ∧ X = H ∧ ρ 0 = .slice a w.length cap ∧ ρ 1 = .int .i64 (w.getD b 0) ∧ ρ 7 = .int .i64 (w.length:Int) ∧ ρ 8 = .int .i64 (k:Int))
    ⟨0,rfl,Nat.zero_le _,rfl,rfl,rfl,rfl,rfl⟩ ?_
  rintro m ρ X ⟨k,rfl,hk,rfl,e0,e1,e7,e8⟩;have hkl:k < w.length:=Nat.lt_of_le_of_lt hk hb.1;have hlt:(k:Int) < (w.length:Int):=by omega
  have hw:IntKind.i64.wrap ((k:Int) + 1) = ((k + 1:Nat):Int):=IntWalk.i64_in _ (by omega)
  have ixk:=SlI_ix hl hkl;have rdk:=(hl.rdI hkl).1
  by_cases hkb:k = b
  · subst hkb;clear hl hb hk
    repeat' simp only [↓Zabr,↓Zabo,↓Zabq,↓Zaaf,↓Zabl,↓Zabn,↓Zabp,↓Zaci,↓Zach,↓Zacn,↓Zaar,↓Zaaj,↓Zaaq,↓Zaak,↓Zaao,↓bxPut,↓Zabj,↓Zabi,↓Zabk,↓Zaae,↓blockQ_ret,↓Zaad,↓Zabe,↓Zabd,↓loopQ_ret,↓Zabh,↓Zacl,↓Zacm,↓Zaco,↓Zaba,↓Zaay,Zacj,Zaac,Zabc,Zacg,Zabf,↓reduceIte,Nat.reduceEqDiff,Nat.reduceLT,dec_T,and_self,one1,Option.bind_some, *,ldI]
  · have hlb:k < b:=by omega
    have hbk:=hb.2.2 k hlb;have hne:¬ w.getD b 0 = w.getD k 0:=fun h => by
      have hbk:w.getD b 0 < w.getD k 0:=hbk;omega
    clear hl hb hbk
    repeat' simp only [↓Zabr,↓Zabo,↓Zabq,↓Zaaf,↓Zabl,↓Zabn,↓Zabp,↓Zaci,↓Zach,↓Zacn,↓Zaar,↓Zaaj,↓Zaaq,↓Zaak,↓Zaao,↓bxPut,↓Zabj,↓Zabi,↓Zabk,↓Zaae,↓blockQ_ret,↓Zaad,↓Zabe,↓Zabd,↓loopQ_ret,↓Zabh,↓Zacl,↓Zacm,↓Zaco,↓Zaba,↓Zaay,Zacj,Zaac,Zabc,Zacg,Zacf,Zabf,↓reduceIte,Nat.reduceEqDiff,Nat.reduceLT,dec_T,dec_F,true_and,one1,Option.bind_some, *,ldI]
    exact ⟨w.length - (k + 1),by omega,k + 1,rfl,by omega,rfl⟩
end Go.Proofs.YtdfjaoncabanbaaGreatDoor
