/- Are points the same; the law RouteLooks on the canonical machine. -/
import Derived.Test.YteechkbnccpicaaT7
import Derived.Test.YteechkbnccpicaaPC
import Derived.Test.YteechkbnccpicaaR7
set_option linter.unusedVariables false
set_option linter.unusedSimpArgs false
set_option linter.unusedSectionVars false

namespace Go.Proofs.Yteechkbnccpicaa
open Go Go.AM
set_option maxRecDepth 10000

theorem neS (a b c d:Int):binP Try.prog .neq 40 (.agg ⟨[.int .i64 a,.int .i64 b]⟩) (.agg ⟨[.int .i64 c,.int .i64 d]⟩) = some (.bool (decide (¬ [a,b] = [c,d]))):=by
  have h:=(binP_eqlS (P:=Try.prog) (t:=40) (ty:=3) (k:=.i64) Try.underlying40 (by kernel_rfl) (by kernel_rfl) Try.underlying3 (by kernel_rfl) [a,b] [c,d] rfl rfl (fun i hi => by
    match i,hi with
    | 0,_ => exact ⟨rfl,rfl,show ("Dep" : String) ≠ "_" by decide⟩
    | 1,_ => exact ⟨rfl,rfl,show ("Arr" : String) ≠ "_" by decide⟩)).2
  exact h
variable {S:AM.Sys} (hS:Only S 11)
include hS

theorem stopsEq_runs (w:List Pt) (v v2:Value) (r o r2 o2:Nat) (H:Heap) (hL:H.low ≤ H.size) (h1:SlP H v w r o) (h2:SlP H v2 w r2 o2):Runs Try.prog S (.fn 22) [v,v2] H (.bool true) H:=by
  suffices h:WCall Try.prog S (.fn 22) [v,v2] H (fun u H' => u = .bool true ∧ H' = H) by
    obtain ⟨_,_,hr,rfl,rfl⟩:=h; exact hr
  obtain ⟨a,c,rfl⟩:=h1.v0;obtain ⟨a2,c2,rfl⟩:=h2.v0;have d0:decide (¬ ((w.length:Nat):Int) = ((w.length:Nat):Int)) = false:=decide_eq_false fun h => h rfl
  refine Zabc Try.func22 rfl (Nat.le_of_ble_eq_true rfl) (hS.no rfl _ _) ?_
  rw [Try.ntmps22,Try.results22]
  repeat' (first | simp only [↓Zacc,↓Zabz,↓Zacb,↓Zaai,↓Zaaj,↓Zabw,↓Zaca,↓Zacy,↓Zacx,↓Zadd,↓Zaaw,↓Zaan,↓Zaao,↓Zaau,↓bxPut,↓Zabu,↓Zabv,↓Zabs,↓Zadb,↓Zadc,↓Zade,↓Zabi,↓Zabg,Zacz,Zaae,Zabk,Zacv,Zabo,↓reduceIte,Nat.reduceEqDiff,Nat.reduceLT,dec_F,not_true_eq_false, *,argF,List.getD_cons_zero,List.getD_cons_succ,lenS])
  refine sxL_of (fun m ρ H1 => ∃ k:Nat,m = w.length - k ∧ k ≤ w.length ∧ H1 = H ∧ ρ 0 = .slice a w.length c ∧ ρ 1 = .slice a2 w.length c2 ∧ ρ 5 = .int .i64 (k:Int))
    ⟨0,rfl,Nat.zero_le _,rfl,rfl,rfl,rfl⟩ ?_
  rintro m ρ H1 ⟨k,rfl,hk,rfl,e0,e1,e5⟩
  by_cases hlt:k < w.length
  · have hlt':(k:Int) < (w.length:Int):=by omega
    have hw:=wrap_succ hlt h1.ml;have hob:=SlP_at h1 hlt;obtain ⟨q,hix,hrd,_⟩:=hob;have hob2:=SlP_at h2 hlt;obtain ⟨q2,hix2,hrd2,_⟩:=hob2;have hgx:∃ x,x = w.getD k default:=⟨_,rfl⟩;obtain ⟨x,hx⟩:=hgx;rw [← hx] at hrd hrd2;unfold pc at hrd hrd2;have hne:binP Try.prog .neq 40 (.agg ⟨[.int .i64 x.1,.int .i64 x.2]⟩) (.agg ⟨[.int .i64 x.1,.int .i64 x.2]⟩) = some (.bool false):=by rw [neS,decide_eq_false fun h => h rfl]
    clear h1 h2 hx d0
    repeat' (first | simp only [↓Zacc,↓Zabx,↓Zabz,↓Zacb,↓Zaai,↓Zabw,↓Zaby,↓Zaca,↓Zacy,↓Zacx,↓Zacq,↓Zaak,↓Zacl,↓Zack,↓Zacg,↓Zacj,↓Zacp,↓Zadd,↓Zaaw,↓Zaan,↓Zaav,↓Zaao,↓Zaat,↓Zaau,↓bxPut,↓Zabu,↓Zabt,↓Zabv,↓Zaag,↓Zaah,↓Zaaf,↓Zabm,↓Zabl,↓Zabn,↓Zabs,↓Zadb,↓Zadc,↓Zade,↓Zabi,↓Zabg,Zacz,Zaae,Zabk,Zacw,Zacv,Zabo,↓reduceIte,Nat.reduceEqDiff,Nat.reduceLT,dec_T,true_and,Zaab,Option.map_some, *,lenS,ldS] | (with_reducible first | refine Zacf (by assumption) (by decide +kernel) ?_ | refine Zace (by decide +kernel) ?_ | refine Zaco (by decide +kernel) ?_ | refine Zach ?_))
    exact ⟨w.length - (k + 1),by omega,k + 1,rfl,by omega,rfl⟩
  · have hke:k = w.length:=by omega
    subst hke;have hlt':¬ (((w.length:Nat):Int) < ((w.length:Nat):Int)):=by omega
    clear h1 h2 d0
    repeat' (first | simp only [↓Zacc,↓Zabx,↓Zabz,↓Zacb,↓Zaai,↓Zabw,↓Zaby,↓Zaca,↓Zacy,↓Zacx,↓Zacq,↓Zaak,↓Zacl,↓Zack,↓Zacg,↓Zacj,↓Zadd,↓Zaaw,↓Zaan,↓Zaav,↓Zaao,↓Zaat,↓Zaau,↓bxPut,↓Zabu,↓Zabt,↓Zabv,↓Zaag,↓Zaah,↓Zaaf,↓Zabm,↓Zabl,↓Zabn,↓Zabs,↓Zadb,↓Zadc,↓Zade,↓Zabi,↓Zabg,Zacz,Zaae,Zabk,Zacv,Zabo,↓reduceIte,Nat.reduceEqDiff,Nat.reduceLT,dec_F,and_self, *,lenS] | (with_reducible first | refine Zacf (by assumption) (by decide +kernel) ?_ | refine Zace (by decide +kernel) ?_ | refine Zaco (by decide +kernel) ?_ | refine Zach ?_))

end Go.Proofs.Yteechkbnccpicaa

namespace Go.Proofs.Yteechkbnccpicaa
open Go Go.AM
set_option maxRecDepth 10000

structure PKP (A Z:Heap) (ax:Option Addr) (n:Nat):Prop where
  keep:Keep A Z
  row:0 < n → ∃ b r k cells,ax = some ⟨r,0,none⟩ ∧ cells.length = n * 2 ∧ Arr (onH A) Z b r 40 2 k cells
theorem PKP.of {A Z:Heap} {ax:Option Addr} {c:Nat} {Q:List Pt} (h:PtsIn A Z (.slice ax Q.length c) Q.toArray):PKP A Z ax Q.length:=by
  obtain ⟨_,_,_,hk,h | ⟨h0,b,r,k,hv,ha⟩⟩:=h
  · exact ⟨hk,fun h0 => by have:=h.1; simp at this; rw [this] at h0; exact absurd h0 (Nat.lt_irrefl 0)⟩
  · injection hv with h1 h2 h3;exact ⟨hk,fun _ => ⟨b,r,k,_,h1,by rw [flat_len]; simp; rfl,ha⟩⟩
theorem PKP.set {A Z:Heap} {ax:Option Addr} {n:Nat} (h:PKP A Z ax n) {i:Nat} (hi:i < n):∃ r Z2,ax = some ⟨r,0,none⟩ ∧ aStore Try.prog Z 3 (.pointer (some ⟨r,i * 2 + 1,none⟩)) (.int .i64 (-1)) = some Z2 ∧ PKP A Z2 ax n:=by
  obtain ⟨b,r,k,cells,h1,h2,h3⟩:=h.row (by omega)
  obtain ⟨inf,hi1,hi2⟩:=infoI;obtain ⟨Z2,k1,k2,_⟩:=h3.store (P:=Try.prog) (t:=3) hi1 (v:=.int .i64 (-1)) (new:=[.int .i64 (-1)]) rfl hi2 rfl (o:=i * 2 + 1) (by rw [h2]; show i * 2 + 1 + 1 ≤ n * 2; omega)
  exact ⟨r,Z2,h1,k1,k2.keep,fun _ => ⟨b,r,k,_,h1,by unfold splice; simp; omega,k2⟩⟩

variable {S:AM.Sys} (hS:Only S 11)
include hS

set_option maxHeartbeats 8000000 in
theorem lawProf_runs (n:Int) (ls:List Lg) (lv:Value) (r o:Nat) (ch fr to:Int) (H:Heap) (hL:H.low ≤ H.size) (hg:Grp H) (hl:SlG H lv ls r o) (hO:∀ H',S.O 11 [] H') :
    ∃ H',Runs Try.prog S (.fn 6) [.int .i64 n,lv,.int .i64 ch,.int .i64 fr,.int .i64 to] H (.bool true) H':=by
  suffices h:WCall Try.prog S (.fn 6) [.int .i64 n,lv,.int .i64 ch,.int .i64 fr,.int .i64 to] H (fun v H' => v = .bool true) by
    obtain ⟨_,H',hr,rfl⟩:=h; exact ⟨H',hr⟩
  have hk1:∀ (H':Heap) (K:Value → Heap → Prop) (b:Blk K),sxCallB Try.prog S (.fn 11) [] H' K b = K (.bool true) H':=fun H' K b => known_bx (hO H')
  have hlv:=hl.v0;obtain ⟨a,c,rfl⟩:=hlv;have f0:=(few_runs hS a ls.length c H).bx
  by_cases h80:(ls.length:Int) ≤ 80
  case neg =>
    rw [decide_eq_false h80] at f0;clear hl h80;refine Zabc Try.func6 rfl (Nat.le_of_ble_eq_true rfl) (hS.no rfl _ _) ?_
    rw [Try.ntmps6,Try.results6]
    repeat' (first | simp only [↓Zacc,↓Zabz,↓Zacb,↓Zaai,↓Zaaj,↓Zabw,↓Zaca,↓Zacy,↓Zacx,↓Zadd,↓Zaaw,↓Zaan,↓Zaaz,↓Zaar,↓Zaba,↓bxPut,↓Zabu,↓Zabv,↓Zabs,↓Zadb,↓Zadc,↓Zade,↓Zabi,↓Zabg,↓Zabh,Zacz,una_nf,Zacd,Zacw,Zabo,List.map_cons,List.map_nil,List.nil_append,List.append_nil,↓reduceIte,Nat.reduceEqDiff,Nat.reduceLT, *,argF,List.getD_cons_zero,List.getD_cons_succ])
  rw [decide_eq_true h80] at f0;have ex0:∀ x y:Value,aExtract (.tuple ⟨[x,y]⟩) 0 = some x:=fun x y => by kernel_rfl
  have ex1:∀ x y:Value,aExtract (.tuple ⟨[x,y]⟩) 1 = some y:=fun x y => by kernel_rfl
  have hob:=rProf_runs hS n ls _ r o ch fr to H hL hg hl;obtain ⟨u1,H1,hR1,v1,Q1,r1,rfl,k1,s1,ha1,hb1⟩:=hob;have f1:=hR1.bx;have hv0:=s1.v0;obtain ⟨a1,c1,rfl⟩:=hv0;have hl1:=hl.keep k1;have hL1:=k1.low hL;have hg1:=k1.grp hg;have hge:∃ e0,errC n ls ch fr to [] = e0:=⟨_,rfl⟩;obtain ⟨e0,he0⟩:=hge;rw [he0] at ha1 hb1 f1;clear hR1 k1 hl hL hg;refine Zabc Try.func6 rfl (Nat.le_of_ble_eq_true rfl) (hS.no rfl _ _) ?_
  rw [Try.ntmps6,Try.results6];clear h80
  repeat' (first | simp only [↓Zacc,↓Zabz,↓Zacb,↓Zaai,↓Zaaj,↓Zabw,↓Zaca,↓Zacy,↓Zacx,↓Zadd,↓Zaaw,↓Zaan,↓Zaaz,↓Zaar,↓Zaba,↓bxPut,↓Zabu,↓Zabv,↓Zabs,↓Zadb,↓Zadc,↓Zade,↓Zabi,↓Zabg,↓Zabh,Zacz,una_nt,Zacd,Zacv,Zabo,List.map_cons,List.map_nil,List.nil_append,List.append_nil,↓reduceIte,Nat.reduceEqDiff,Nat.reduceLT, *,argF,List.getD_cons_zero,List.getD_cons_succ])
  clear f0 f1;refine sxL_of (fun m ρ X => ∃ k:Nat,m = 2 - k ∧ k ≤ 2 ∧ Keep H1 X ∧ ρ 0 = .int .i64 n ∧ ρ 1 = .slice a ls.length c ∧ ρ 2 = .int .i64 ch ∧ ρ 3 = .int .i64 fr ∧ ρ 4 = .int .i64 to ∧ ρ 11 = .slice a1 Q1.length c1 ∧ ρ 12 = .int .i64 e0 ∧ ρ 13 = .int .i64 (k:Int))
    ⟨0,rfl,Nat.zero_le _,Keep.refl _,rfl,rfl,rfl,rfl,rfl,rfl,rfl,rfl⟩ ?_
  rintro m ρ X ⟨k,rfl,hk,kX,e0',e1,e2,e3,e4,e11,e12,e13⟩
  by_cases hk2:k < 2
  case neg =>
    have hk2':¬ (k:Int) < 2:=by omega
    clear hl1 ha1 hb1 s1 kX hk hk2
    repeat' (first | simp only [↓Zacc,↓Zabz,↓Zacb,↓Zaai,↓Zaaj,↓Zabw,↓Zaby,↓Zaca,↓Zacy,↓Zacx,↓Zadd,↓Zabb,↓Zaaw,↓Zaan,↓Zaax,↓Zaao,↓Zaaz,↓Zaar,↓Zaba,↓bxPut,↓Zabu,↓Zabt,↓Zabv,↓Zaah,↓Zaaf,↓Zabm,↓Zabl,↓Zabn,↓Zabs,↓Zadb,↓Zadc,↓Zade,↓Zabi,↓Zabg,↓Zabh,↓dstAt,↓Zabj,Zacz,Zaae,Zabk,Zacd,Zacv,Zabo,List.map_nil,List.nil_append,List.append_nil,↓reduceIte,Nat.reduceLT,dec_F, *])
  have hk2':(k:Int) < 2:=by omega
  have hob:=Prof_runs hS n ls _ r o ch fr to X (kX.low hL1) (kX.grp hg1) (hl1.keep kX);obtain ⟨u2,X2,hR2,v2,Q,rfl,hpts,hq60,ha2,hb2⟩:=hob;rw [he0] at ha2 hb2 hR2;have hQ:Q = Q1:=by
    by_cases h0:e0 = 0
    · by_cases hft:fr = to
      · rw [ha2 (.inr hft),ha1 (.inr hft)]
      · exact (hb2 h0 hft).eq (hb1 h0 hft)
    · rw [ha2 (.inl h0),ha1 (.inl h0)]
  subst hQ;have kX2:=hpts.2.2.2.1;have hob:=hpts.sl;obtain ⟨r2,s2,_⟩:=hob;have s2:SlP X2 v2 Q r2 0:=s2;have hv0:=s2.v0;obtain ⟨a2,c2,rfl⟩:=hv0;have hpk:=PKP.of hpts;have hE:=stopsEq_runs hS Q _ _ _ _ _ _ X2 ((kX.trans kX2).low hL1) s2 ((s1.keep kX).keep kX2);have f2:=hR2.bx;have f3:=hE.bx;have dd:decide (¬ e0 = e0) = false:=decide_eq_false fun h => h rfl
  clear hR2 hE hpts s2 ha2 hb2 kX2
  repeat' (first | simp only [↓Zacc,↓Zabz,↓Zacb,↓Zaai,↓Zaaj,↓Zabw,↓Zaby,↓Zaca,↓Zacy,↓Zacx,↓Zadd,↓Zabb,↓Zaaw,↓Zaan,↓Zaax,↓Zaao,↓Zaaz,↓Zaar,↓Zaba,↓bxPut,↓Zabu,↓Zabt,↓Zabv,↓Zaah,↓Zaaf,↓Zabm,↓Zabl,↓Zabn,↓Zabs,↓Zadb,↓Zadc,↓Zade,↓Zabi,↓Zabg,↓Zabh,↓dstAt,↓Zabj,Zacz,Zaae,Zabk,una_nt,Zaac,Zacd,Zacr,Zacw,Zacv,Zabo,List.map_cons,List.map_nil,List.nil_append,List.append_nil,↓reduceIte,Nat.reduceEqDiff,Nat.reduceLT,dec_T,dec_F,not_true_eq_false, *])
  clear f2 f3;refine sxL_of (fun m ρ Z => ∃ i:Nat,m = Q.length - i ∧ i ≤ Q.length ∧ PKP X Z a2 Q.length ∧ ρ 0 = .int .i64 n ∧ ρ 1 = .slice a ls.length c ∧ ρ 2 = .int .i64 ch ∧ ρ 3 = .int .i64 fr ∧ ρ 4 = .int .i64 to ∧ ρ 11 = .slice a1 Q.length c1 ∧ ρ 12 = .int .i64 e0 ∧ ρ 13 = .int .i64 (k:Int) ∧ ρ 14 = .slice a2 Q.length c2 ∧ ρ 16 = .int .i64 (i:Int))
    ⟨0,rfl,Nat.zero_le _,hpk,e0',e1,e2,e3,e4,e11,e12,e13,rfl,rfl⟩ ?_
  clear e0' e1 e2 e3 e4 e11 e12 e13 hpk ρ;rintro m ρ Z ⟨i,rfl,hi,hpk,e0',e1,e2,e3,e4,e11,e12,e13,e14,e16⟩
  by_cases hil:i < Q.length
  case neg =>
    have hil':¬ (i:Int) < (Q.length:Int):=by omega
    have kZ:=kX.trans hpk.keep;have hwk:IntKind.i64.wrap ((k:Int) + 1) = ((k + 1:Nat):Int):=IntWalk.i64_in _ (by omega)
    clear hl1 ha1 hb1 s1 kX hpk hi hil
    repeat' (first | simp only [↓Zacc,↓Zabz,↓Zacb,↓Zaai,↓Zabw,↓Zaby,↓Zacy,↓Zacx,↓Zadd,↓Zaaw,↓Zaan,↓Zaay,↓Zaao,↓Zaas,↓Zaat,↓Zaau,↓Zada,↓bxPut,↓Zabu,↓Zabt,↓Zaag,↓Zaaf,↓Zabm,↓Zabl,↓Zade,↓Zabi,↓Zabg,Zacz,Zaae,Zabk,Zacv,↓reduceIte,Nat.reduceEqDiff,Nat.reduceLT,dec_F,true_and, *,lenS])
    exact ⟨2 - (k + 1),by omega,k + 1,rfl,by omega,rfl⟩
  have hil':(i:Int) < (Q.length:Int):=by omega
  have hwi:IntKind.i64.wrap ((i:Int) + 1) = ((i + 1:Nat):Int):=IntWalk.i64_in _ (by omega)
  have hob:=hpk.set hil;obtain ⟨r8,Z2,rfl,st8,hpk2⟩:=hob;have ix8:=ixAtP (r:=r8) (c:=c2) hil;clear hl1 ha1 hb1 s1 kX hpk
  repeat' (first | simp only [↓Zacc,↓Zabz,↓Zacb,↓Zaai,↓Zabw,↓Zaby,↓Zacy,↓Zacx,↓Zadd,↓Zaaw,↓Zaan,↓Zaay,↓Zaao,↓Zaas,↓Zaat,↓Zaau,↓Zada,↓bxPut,↓Zabu,↓Zabt,↓Zaag,↓Zaaf,↓Zabm,↓Zabl,↓Zade,↓Zabi,↓Zabg,Zacz,Zaae,Zabk,Zacw,↓reduceIte,Nat.reduceEqDiff,Nat.reduceLT,dec_T,true_and, *,lenS,faS1])
  exact ⟨Q.length - (i + 1),by omega,i + 1,rfl,by omega,rfl⟩
end Go.Proofs.Yteechkbnccpicaa
