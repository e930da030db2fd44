/- The game, by the reference. -/
import Derived.Test.YtmpbapffjapghaaG3
set_option linter.unusedVariables false
set_option linter.unusedSimpArgs false
set_option linter.unusedSectionVars false

namespace Go.Proofs.Ytmpbapffjapghaa
open Go Go.AM
set_option maxRecDepth 10000

theorem outS_succ (s k:Nat) (c:List Int):outS s (k + 1) c = outS s k c + if s.testBit k then 0 else c.getD k 0:=by
  unfold outS;rw [List.range_succ,List.map_append,List.sum_append];simp
theorem outS_rng {s k:Nat} {c:List Int} (hc:∀ x ∈ c,0 ≤ x ∧ x ≤ 100000) (hk:k ≤ c.length):0 ≤ outS s k c ∧ outS s k c ≤ k * 100000:=by
  induction k with
  | zero => simp [outS]
  | succ k ih =>
    have h1:=ih (by omega)
    have h2:=hc _ (getD_mem (d:=0) (show k < c.length by omega))
    rw [outS_succ];split <;> omega
theorem gvs_snoc (e:Int) (c:List Int) (s:Nat):(List.range s).map (gv e c) ++ [gv e c s] = (List.range (s + 1)).map (gv e c):=by simp [List.range_succ]

variable {S:AM.Sys} (hS:Only S 5)
include hS

set_option maxHeartbeats 4000000 in
theorem rGame_runs (e:Int) (v:Value) (c:List Int) (r o:Nat) (H:Heap) (hg:Grp H) (hL:H.low ≤ H.size) (hl:SlI .i64 H v c r o) :
    ∃ v2 H' f,Runs Try.prog S (.fn 7) [.int .i64 e,v] H (.tuple ⟨[v2,.int .i64 f]⟩) H' ∧ Keep H H' ∧ (¬ Q.Prob e c → f = 2 ∧ v2 = .slice none 0 0) ∧ (Q.Prob e c → f = 0 ∧ ∃ r2,SlI .i64 H' v2 (gvs e c) r2 0):=by
  suffices h:WCall Try.prog S (.fn 7) [.int .i64 e,v] H (fun u H' => ∃ v2 f,u = .tuple ⟨[v2,.int .i64 f]⟩ ∧ Keep H H' ∧ (¬ Q.Prob e c → f = 2 ∧ v2 = .slice none 0 0) ∧ (Q.Prob e c → f = 0 ∧ ∃ r2,SlI .i64 H' v2 (gvs e c) r2 0)) by
    obtain ⟨_,H',hr,v2,f,rfl,h⟩:=h; exact ⟨v2,H',f,hr,h⟩
  obtain ⟨a,cap,rfl⟩:=hl.v0;have f1:=(Q.Problem_runs hS e _ c r o H hL hl).bx;refine call_of Try.func7 rfl (Nat.le_of_ble_eq_true rfl) (hS.no rfl _ _) ?_
  rw [Try.ntmps7,Try.results7]
  by_cases hp:Q.Prob e c
  case neg =>
    rw [decide_eq_false hp] at f1;have hpo:∃ v2 f,Value.tuple ⟨[.slice none 0 0,.int .i64 2]⟩ = .tuple ⟨[v2,.int .i64 f]⟩ ∧ Keep H H ∧ (¬ Q.Prob e c → f = 2 ∧ v2 = .slice none 0 0) ∧ (Q.Prob e c → f = 0 ∧ ∃ r2,SlI .i64 H v2 (gvs e c) r2 0):=⟨_,2,rfl,Keep.refl _,fun _ => ⟨rfl,rfl⟩,fun h => absurd h hp⟩
    obtain ⟨W,hW⟩:∃ W:Value → Heap → Prop,W = fun u H' => ∃ v2 f,u = .tuple ⟨[v2,.int .i64 f]⟩ ∧ Keep H H' ∧ (¬ Q.Prob e c → f = 2 ∧ v2 = .slice none 0 0) ∧ (Q.Prob e c → f = 0 ∧ ∃ r2,SlI .i64 H' v2 (gvs e c) r2 0):=⟨_,rfl⟩
    have hpo2:W (.tuple ⟨[.slice none 0 0,.int .i64 2]⟩) H:=by rw [hW]; exact hpo
    rw [← hW];clear hl hp hpo hW
    repeat' simp only [↓Zadl,↓Zadi,↓Zadk,↓Zaas,↓Zaat,↓Zade,↓Zadj,↓Zafk,↓Zafj,↓Zafq,↓Zabt,↓Zaay,↓Zaby,↓Zabz,↓bxPut,↓Zadb,↓Zadc,↓Zacy,↓Zafo,↓Zafp,↓Zafs,↓Zacj,↓Zacg,↓Zach,Zafm,una_nf,Zadm,Zafi,Zact,List.map,List.nil_append,List.append_nil,↓reduceIte,Nat.reduceEqDiff,Nat.reduceLT, *,argF,List.getD_cons_zero,List.getD_cons_succ,Zact]
  rw [decide_eq_true hp] at f1;have hc:=hp.2.2.1;have he:=hp.1;have h7:=hp.2.1;have hp2:=pow_small c.length (by omega)
  have hsh:IntKind.i64.wrap (1 * 2 ^ min c.length IntKind.i64.bits) = ((2 ^ c.length:Nat):Int):=by
    rw [show min c.length IntKind.i64.bits = c.length from Nat.min_eq_left (by show c.length ≤ 64; omega),Int.one_mul,Int.natCast_pow]
    have:((2:Int) ^ c.length) = ((2 ^ c.length:Nat):Int):=by rw [Int.natCast_pow]; rfl
    show IntKind.i64.wrap ((2:Int) ^ c.length) = (2:Int) ^ c.length;rw [this];exact wrapN (by omega)
  have h0:(0:Int) ≤ (c.length:Int):=Int.natCast_nonneg _;have hgs:gvs e c = (List.range (2 ^ c.length)).map (gv e c):=rfl;obtain ⟨W,hW⟩:∃ W:Value → Heap → Prop,W = fun u H' => ∃ v2 f,u = .tuple ⟨[v2,.int .i64 f]⟩ ∧ Keep H H' ∧ (¬ Q.Prob e c → f = 2 ∧ v2 = .slice none 0 0) ∧ (Q.Prob e c → f = 0 ∧ ∃ r2,SlI .i64 H' v2 (gvs e c) r2 0):=⟨_,rfl⟩
  have hWi:∀ v2 X r2,Keep H X → SlI .i64 X v2 (gvs e c) r2 0 → W (.tuple ⟨[v2,.int .i64 0]⟩) X:=fun v2 X r2 h1 h2 => by
    rw [hW]; exact ⟨v2,0,rfl,h1,fun h => absurd hp h,fun _ => ⟨rfl,r2,h2⟩⟩
  rw [← hW];have hgr:=fun s => gv_rng hp s
  obtain ⟨N,hN⟩:∃ N,2 ^ c.length = N:=⟨_,rfl⟩;rw [hN] at hgs hsh hp2;rw [hgs] at hWi;have hc7:c.length ≤ 7:=by omega
  clear hp hW hgs hN h7
  repeat' simp only [↓Zadl,↓Zadi,↓Zadk,↓Zaas,↓Zaat,↓Zade,↓Zadj,↓Zafk,↓Zafj,↓Zafq,↓Zabt,↓Zaay,↓Zaby,↓Zabz,↓bxPut,↓Zadb,↓Zadc,↓Zacy,↓Zafo,↓Zafp,↓Zafs,↓Zacj,↓Zacg,↓Zach,Zafm,una_nt,Zadm,Zafg,Zact,List.map,List.nil_append,List.append_nil,↓reduceIte,Nat.reduceEqDiff,Nat.reduceLT, *,argF,List.getD_cons_zero,List.getD_cons_succ]
  clear f1;refine sxL_of (fun m ρ X => ∃ (s:Nat) (lv:Value),m = N - s ∧ s ≤ N ∧ Keep H X ∧ Grp X ∧ LstG (intE .i64) 3 H.size X lv ((List.range s).map (gv e c)) ∧ ρ 0 = .int .i64 e ∧ ρ 1 = .slice a c.length cap ∧ ρ 6 = lv ∧ ρ 7 = .int .i64 (s:Int))
    ⟨0,.slice none 0 0,rfl,Nat.zero_le _,Keep.refl _,hg,LstG.nil,rfl,rfl,rfl,rfl⟩ ?_
  rintro m ρ X ⟨s,lv,rfl,hs,kX,gX,hlst,e0,e1,e6,e7⟩
  by_cases hsl:s < N
  case neg =>
    have hlt:¬ (s:Int) < (N:Int):=by omega
    have hse:s = N:=Nat.le_antisymm hs (Nat.not_lt.1 hsl);rw [hse] at hlst;have hob:=hlst.sl (by have:Go.maxLen = 9223372036854775807:=rfl; simp; omega)
    obtain ⟨r8,s8,_⟩:=hob;have hw:=hWi lv X r8 kX s8;clear hWi hlst s8 hse hs hsl hl kX gX hc he hgr
    repeat' simp only [↓Zadl,↓Zadi,↓Zadk,↓Zaas,↓Zaat,↓Zade,↓Zadg,↓Zafk,↓Zafj,↓Zafq,↓Zabt,↓Zaay,↓Zabc,↓Zaaz,↓Zabm,↓Zaaw,↓Zabr,↓bxPut,↓Zadb,↓Zacz,↓Zaaq,↓Zaao,↓Zacp,↓Zacn,↓Zafs,↓Zacj,↓Zacg,Zafm,Zaak,Zacm,Zafg,↓reduceIte,Nat.reduceEqDiff,Nat.reduceLT,dec_F,Int.toNat_natCast, *,lenI]
  have hlt:(s:Int) < (N:Int):=by omega
  have hws:IntKind.i64.wrap ((s:Int) + 1) = ((s + 1:Nat):Int):=IntWalk.i64_in _ (by omega)
  repeat' simp only [↓Zadl,↓Zadi,↓Zadk,↓Zaas,↓Zaat,↓Zade,↓Zadg,↓Zafk,↓Zafj,↓Zafq,↓Zabt,↓Zaay,↓Zabc,↓Zaaz,↓Zabm,↓Zaaw,↓Zabr,↓bxPut,↓Zadb,↓Zacz,↓Zaaq,↓Zaao,↓Zacp,↓Zacn,↓Zafs,↓Zacj,↓Zacg,Zafm,Zaak,Zacm,Zafi,↓reduceIte,Nat.reduceEqDiff,Nat.reduceLT,dec_T,Int.toNat_natCast, *,lenI]
  refine sxL_of (fun m ρ Y => ∃ (i:Nat),m = c.length - i ∧ i ≤ c.length ∧ Y = X ∧ ρ 0 = .int .i64 e ∧ ρ 1 = .slice a c.length cap ∧ ρ 6 = lv ∧ ρ 7 = .int .i64 (s:Int) ∧ ρ 8 = .int .i64 (e - outS s i c) ∧ ρ 9 = .int .i64 (i:Int))
    ⟨0,rfl,Nat.zero_le _,rfl,e0,e1,e6,e7,by rw [show outS s 0 c = 0 from rfl,Int.sub_zero]; rfl,rfl⟩ ?_
  clear e0 e1 e6 e7 ρ;rintro m ρ Y ⟨i,rfl,hi,rfl,e0,e1,e6,e7,e8,e9⟩;have hor:=outS_rng (s:=s) hc hi
  by_cases hil:i < c.length
  case neg =>
    have hlti:¬ (i:Int) < (c.length:Int):=by omega
    have hie:i = c.length:=Nat.le_antisymm hi (Nat.not_lt.1 hil);have hgz:∃ z,z = gv e c s:=⟨_,rfl⟩;obtain ⟨z,hz⟩:=hgz;have hmx:aMinMax .max (.int .i64 0) (.int .i64 (e - outS s i c)) = some (.int .i64 z):=by
      have:(if e - outS s i c > 0 then e - outS s i c else 0) = z:=by rw [hz,hie]; unfold gv; split <;> omega
      rw [← this]; rfl
    have hzr:=hgr s;rw [← hz] at hzr;have hob:=hlst.push (P:=Try.prog) (ts:=#[22,22]) okI3 (stable_int _ _) gX kX.size (x:=z) (es:=[.int .i64 z]) (atI3 ⟨by omega,by omega⟩) rfl (by simp; omega) 3
    obtain ⟨v9,X3,ap9,l9,gr9⟩:=hob;rw [hz,gvs_snoc] at l9;have hbs:=bs1I Y z;have k9:=gr9.base H hg kX (Nat.le_refl _);have g9:=gr9.grp gX;clear hlst kX gX hl hc he hgr hz hzr hie hi hil hor gr9 hWi
    repeat' simp only [↓Zadl,↓Zadi,↓Zadk,↓Zaas,↓Zade,↓Zadg,↓Zafk,↓Zafj,↓Zafq,↓Zabt,↓Zaay,↓Zabn,↓Zaaz,↓Zabl,↓Zabm,↓bxPut,↓Zadb,↓Zacz,↓Zaaq,↓Zaao,↓Zacp,↓Zacn,↓Zafs,↓Zacj,↓Zacg,Zafm,Zaak,Zacm,Zafg,List.map,↓reduceIte,Nat.reduceEqDiff,Nat.reduceLT,dec_F,true_and, *,lenI]
    exact ⟨N - (s + 1),by omega,s + 1,v9,rfl,by omega,l9,rfl,rfl⟩
  have hlti:(i:Int) < (c.length:Int):=by omega
  have hwi:IntKind.i64.wrap ((i:Int) + 1) = ((i + 1:Nat):Int):=IntWalk.i64_in _ (by omega)
  have hbs:((s:Int).fdiv (2 ^ min i IntKind.i64.bits)).tmod 2 = if s.testBit i then 1 else 0:=bit_shr s (by omega) i (by omega)
  have hix:=SlI_ix (hl.keep kX) hil;have hrd:=((hl.keep kX).rdI hil).1;have hos:=outS_succ s i c;have hci:=hc _ (getD_mem (d:=0) hil);have hwz:IntKind.i64.wrap (e - outS s i c - c.getD i 0) = e - outS s i c - c.getD i 0:=IntWalk.i64_in _ (by omega)
  have h0i:(0:Int) ≤ (i:Int):=Int.natCast_nonneg _;cases hb:s.testBit i with
  | true =>
    rw [hb] at hos hbs;simp only [if_true,Int.add_zero] at hos;replace hbs:((s:Int).fdiv (2 ^ min i IntKind.i64.bits)).tmod 2 = 1:=hbs;have dd:decide ((1:Int) = 0) = false:=rfl;clear hlst kX gX hl hc he hgr hor hb hci hWi
    repeat' simp only [↓Zadl,↓Zadi,↓Zadk,↓Zaas,↓Zade,↓Zadg,↓Zafk,↓Zafj,↓Zafq,↓Zabt,↓Zaay,↓Zabn,↓Zaaz,↓Zabl,↓Zabm,↓bxPut,↓Zadb,↓Zacz,↓Zaaq,↓Zaao,↓Zacp,↓Zacn,↓Zafs,↓Zacj,↓Zacg,Zafm,Zafl,Zaak,Zacm,Zafi,Zafg,↓reduceIte,Nat.reduceEqDiff,Nat.reduceLT,dec_T,true_and,ne_eq,Int.toNat_natCast, *,lenI]
    exact ⟨by decide,c.length - (i + 1),by omega,i + 1,rfl,by omega,by rw [hos],rfl⟩
  | false =>
    rw [hb] at hos hbs;simp only [Bool.false_eq_true,if_false] at hos;replace hbs:((s:Int).fdiv (2 ^ min i IntKind.i64.bits)).tmod 2 = 0:=hbs;have dd:decide ((0:Int) = 0) = true:=rfl;have hos2:e - outS s i c - c.getD i 0 ≤ e - outS s (i + 1) c ∧ e - outS s (i + 1) c ≤ e - outS s i c - c.getD i 0:=by rw [hos]; omega
    obtain ⟨ho1,ho2⟩:=hos2;clear hlst kX gX hl hc he hgr hor hb hci hos hWi
    repeat' simp only [↓Zadl,↓Zadi,↓Zadk,↓Zaas,↓Zade,↓Zadg,↓Zafk,↓Zafj,↓Zafq,↓Zabt,↓Zaay,↓Zabn,↓Zaaz,↓Zabl,↓Zabm,↓bxPut,↓Zadb,↓Zacz,↓Zaaq,↓Zaao,↓Zacp,↓Zacn,↓Zafs,↓Zacj,↓Zacg,Zafm,Zafl,Zaak,Zacm,Zafi,↓reduceIte,Nat.reduceEqDiff,Nat.reduceLT,dec_T,true_and,one1,Option.bind_some,ne_eq,Int.toNat_natCast, *,lenI,ldI]
    exact ⟨by decide,c.length - (i + 1),by omega,i + 1,rfl,by omega,congrArg (Value.int .i64) (by omega),rfl⟩
end Go.Proofs.Ytmpbapffjapghaa
