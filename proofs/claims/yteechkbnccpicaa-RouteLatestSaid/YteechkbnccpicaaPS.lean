/- Latest, by the reference. -/
import Derived.Test.YteechkbnccpicaaPL
set_option linter.unusedVariables false
set_option linter.unusedSimpArgs false
set_option linter.unusedSectionVars false

namespace Go.Proofs.Yteechkbnccpicaa
open Go Go.AM
set_option maxRecDepth 10000

variable {S:AM.Sys} (hS:Only S 11)
include hS

set_option maxHeartbeats 16000000 in
theorem rLate_runs (n:Int) (ls:List Lg) (lv:Value) (r o:Nat) (ch fr to by':Int) (hat:R64 by') (H:Heap) (hL:H.low ≤ H.size) (hg:Grp H) (hl:SlG H lv ls r o) :
    ∃ u H',Runs Try.prog S (.fn 17) [.int .i64 n,lv,.int .i64 ch,.int .i64 fr,.int .i64 to,.int .i64 by'] H u H' ∧ PostRx (errC n ls ch fr to [by']) fr to by' (LateJ ls ch fr to by') H u H':=by
  suffices h:WCall Try.prog S (.fn 17) [.int .i64 n,lv,.int .i64 ch,.int .i64 fr,.int .i64 to,.int .i64 by'] H (fun u H' => PostRx (errC n ls ch fr to [by']) fr to by' (LateJ ls ch fr to by') H u H') by
    obtain ⟨u,H',hr,h⟩:=h; exact ⟨u,H',hr,h⟩
  obtain ⟨a,c,rfl⟩:=hl.v0;have k1:=Keep.newExact H [.int .i64 by'] 3
  have s1:=one_sl H by' hat
  have b1:=bsI H by'
  obtain ⟨H1,hH1⟩:∃ H1,H1 = H.newExact [.int .i64 by'] 3:=⟨_,rfl⟩
  rw [← hH1] at k1 s1 b1;obtain ⟨H2,k2,hR⟩:=good_runs hS n ls (.slice a ls.length c) r o ch fr to [by'] _ H.size 0 H1 (hl.keep k1) s1
  have f1:=hR.bx;rw [show [by'].length = 1 from rfl] at f1
  have hK2:=k1.trans k2;obtain ⟨e,he⟩:∃ e,e = errC n ls ch fr to [by']:=⟨_,rfl⟩
  rw [← he] at f1 ⊢;clear hH1 hR s1;refine Zabc Try.func17 rfl (Nat.le_of_ble_eq_true rfl) (hS.no rfl _ _) ?_
  rw [Try.ntmps17,Try.results17]
  by_cases h0:e = 0
  case neg =>
    have hp:PostRx e fr to by' (LateJ ls ch fr to by') H (.tuple ⟨[.int .i64 0,.slice none 0 0,.int .i64 e]⟩) H2:=⟨0,e,_,[],rfl,hK2,jE_nilAt _,fun _ => ⟨rfl,rfl,rfl⟩,fun h => absurd h h0,fun h => absurd h h0⟩
    have d0:decide (¬ e = 0) = true:=decide_eq_true h0;clear hK2 k1 k2 hl he
    repeat' simp only [↓Zacc,↓Zabz,↓Zacb,↓Zaai,↓Zaaj,↓Zabw,↓Zaca,↓Zacy,↓Zacx,↓Zadd,↓Zaaw,↓Zaan,↓Zaaq,↓Zaao,↓Zaba,↓bxPut,↓Zabu,↓Zabv,↓Zabs,↓Zadb,↓Zadc,↓Zade,↓Zabi,↓Zabg,↓Zabh,Zacz,Zaae,Zabk,Zacd,Zacw,Zabp,List.map,List.nil_append,List.append_nil,↓reduceIte,Nat.reduceEqDiff,Nat.reduceLT,dec_T,not_false_eq_true, *,argF,List.getD_cons_zero,List.getD_cons_succ]
  subst h0;have d0:decide (¬ (0:Int) = 0) = false:=rfl
  by_cases hft:fr = to
  · have hp:PostRx 0 fr to by' (LateJ ls ch fr to by') H (.tuple ⟨[.int .i64 by',.slice none 0 0,.int .i64 0]⟩) H2:=⟨by',0,_,[],rfl,hK2,jE_nilAt _,fun h => absurd rfl h,fun _ _ => ⟨rfl,rfl,rfl⟩,fun _ h => absurd hft h⟩
    have d1:decide (fr = to) = true:=decide_eq_true hft;clear hK2 k1 k2 hl he hft
    repeat' simp only [↓Zacc,↓Zabz,↓Zacb,↓Zaai,↓Zaaj,↓Zabw,↓Zaca,↓Zacy,↓Zacx,↓Zadd,↓Zaaw,↓Zaan,↓Zaaq,↓Zaao,↓Zaba,↓bxPut,↓Zabu,↓Zabv,↓Zabs,↓Zadb,↓Zadc,↓Zade,↓Zabi,↓Zabg,↓Zabh,Zacz,Zaae,Zabk,Zacd,Zacw,Zacv,Zabp,List.map,List.nil_append,List.append_nil,↓reduceIte,Nat.reduceEqDiff,Nat.reduceLT,dec_F,not_true_eq_false, *,argF,List.getD_cons_zero,List.getD_cons_succ]
  have d1:decide (fr = to) = false:=decide_eq_false hft;obtain ⟨q1,q2,q3,q4⟩:=errC_zero he.symm;have hlk:=LOk.of q2 q3;have l2:=hl.keep hK2;have hg2:=hK2.grp hg;have hL2:=hK2.low hL;have hfit:∀ i,i < ls.length → Fit ch (ls.getD i default):=fun i hi => by
    have h:LegOk n (ls.getD i default):=q2 _ (getD_mem hi);have h4:=h.2.2.2.1;have h5:=h.2.2.2.2.1;have h6:=h.2.2.2.2.2.1;exact ⟨by omega,by omega⟩
  have hno0:∀ i r,Ch ls ch i r → (ls.getD i default).f = fr → (10001:Int) ≤ (ls.getD i default).d → ¬ EndsB to by' (ls.getD (lastN i r) default):=fun i r h1 _ h3 => by
    have:=hlk.leg i h1.lt; omega
  clear q2 q3 q4 he hl k1 k2
  repeat' simp only [↓Zacc,↓Zabz,↓Zacb,↓Zaai,↓Zaaj,↓Zabw,↓Zaca,↓Zacy,↓Zacx,↓Zadd,↓Zaaw,↓Zaan,↓Zaaq,↓Zaao,↓Zaba,↓bxPut,↓Zabu,↓Zabv,↓Zabs,↓Zadb,↓Zadc,↓Zade,↓Zabi,↓Zabg,↓Zabh,Zacz,Zaae,Zabk,Zacd,Zacv,Zabp,List.map,List.nil_append,List.append_nil,↓reduceIte,Nat.reduceEqDiff,Nat.reduceLT,dec_F,not_true_eq_false, *,argF,List.getD_cons_zero,List.getD_cons_succ]
  clear f1 d0 d1;refine sxL_of (fun m ρ X => ∃ (b:Int),m = b.toNat ∧ 0 ≤ b ∧ Keep H2 X ∧ (∀ i r,Ch ls ch i r → (ls.getD i default).f = fr → b ≤ (ls.getD i default).d → ¬ EndsB to by' (ls.getD (lastN i r) default)) ∧ ρ 1 = .slice a ls.length c ∧ ρ 2 = .int .i64 ch ∧ ρ 3 = .int .i64 fr ∧ ρ 4 = .int .i64 to ∧ ρ 5 = .int .i64 by' ∧ ρ 16 = .int .i64 b)
    ⟨10001,rfl,by decide,Keep.refl _,hno0,rfl,rfl,rfl,rfl,rfl,rfl⟩ ?_
  clear hno0;rintro m ρ X ⟨b,rfl,hb0,kX,hno,e1,e2,e3,e4,e5,e16⟩;have hLX:=kX.low hL2;have gX:=kX.grp hg2
  repeat' simp only [↓Zacc,↓Zabz,↓Zacb,↓Zaai,↓Zaaj,↓Zabw,↓Zaca,↓Zacy,↓Zacx,↓Zadd,↓Zaaw,↓Zaan,↓Zaao,↓bxOp_makeSlice,↓Zaba,↓Zaau,↓bxPut,↓Zabu,↓Zabv,↓Zaag,↓Zaah,↓Zabm,↓Zabn,↓Zabs,↓Zadb,↓Zadc,↓Zabi,↓Zabg,↓Zabh,Zacd,Zabp,List.nil_append,Nat.reduceLT, *]
  refine sxL_of (fun m ρ Y => ∃ (i:Nat) (z:Int),m = ls.length - i ∧ i ≤ ls.length ∧ Y = X ∧ DpI ls fr b i z ∧ ρ 1 = .slice a ls.length c ∧ ρ 2 = .int .i64 ch ∧ ρ 3 = .int .i64 fr ∧ ρ 4 = .int .i64 to ∧ ρ 5 = .int .i64 by' ∧ ρ 16 = .int .i64 b ∧ ρ 17 = .int .i64 z ∧ ρ 18 = .int .i64 (i:Int))
    ⟨0,-1,rfl,Nat.zero_le _,rfl,DpI.zero,e1,e2,e3,e4,e5,e16,rfl,rfl⟩ ?_
  clear e1 e2 e3 e4 e5 e16 ρ;rintro m ρ Y ⟨i,z,rfl,hi,rfl,hD,e1,e2,e3,e4,e5,e16,e17,e18⟩
  by_cases hil:i < ls.length
  case pos =>
    have hil':(i:Int) < (ls.length:Int):=by omega
    have hwi:IntKind.i64.wrap ((i:Int) + 1) = ((i + 1:Nat):Int):=IntWalk.i64_in _ (by omega)
    have hob:=SlG_at (l2.keep kX) hil;obtain ⟨qg,ixg,_,rf,_,rd,_,_⟩:=hob
    by_cases h1:(ls.getD i default).f = fr
    · have t1:decide ((ls.getD i default).f = fr) = true:=decide_eq_true h1
      by_cases h2:(ls.getD i default).d < b
      · have t2:decide ((ls.getD i default).d < b) = true:=decide_eq_true h2;have hD2:=hD.take h1 h2;have hgz:∃ z2,z2 = (if (ls.getD i default).d > z then (ls.getD i default).d else z):=⟨_,rfl⟩
        obtain ⟨z2,hz2⟩:=hgz;rw [← hz2] at hD2;have hmx:aMinMax .max (.int .i64 z) (.int .i64 (ls.getD i default).d) = some (.int .i64 z2):=by rw [hz2]; rfl
        clear hD h1 h2 hz2 l2 hlk hfit hno kX gX
        repeat' simp only [↓Zacc,↓Zabz,↓Zacb,↓Zaai,↓Zabw,↓Zaby,↓Zacy,↓Zacx,↓Zadd,↓Zabb,↓Zaaw,↓Zaan,↓Zaax,↓Zaav,↓Zaao,↓Zaas,↓Zaat,↓Zaau,↓bxOp_max,↓bxPut,↓Zabu,↓Zabt,↓Zaag,↓Zaaf,↓Zabm,↓Zabl,↓Zabr,↓Zadb,↓Zadc,↓Zade,↓Zabi,↓Zabg,↓dstAt,↓Zabj,Zacz,Zaae,Zabk,Zaad,Zacu,Zacw,Zabp,↓reduceIte,Nat.reduceEqDiff,Nat.reduceLT,dec_T,true_and,Nat.add_zero,one1,Option.bind_some, *,lenG,ldC,faG0,faG2,one1]
        exact ⟨ls.length - (i + 1),by omega,i + 1,z2,rfl,by omega,hD2,rfl,rfl⟩
      · have t2:decide ((ls.getD i default).d < b) = false:=decide_eq_false h2;have hD2:=hD.skip (fun _ => h2)
        clear hD h1 h2 l2 hlk hfit hno kX gX
        repeat' simp only [↓Zacc,↓Zabz,↓Zacb,↓Zaai,↓Zabw,↓Zaby,↓Zacy,↓Zacx,↓Zadd,↓Zabb,↓Zaaw,↓Zaan,↓Zaax,↓Zaav,↓Zaao,↓Zaas,↓Zaat,↓Zaau,↓bxOp_max,↓bxPut,↓Zabu,↓Zabt,↓Zaag,↓Zaaf,↓Zabm,↓Zabl,↓Zabr,↓Zadb,↓Zadc,↓Zade,↓Zabi,↓Zabg,↓dstAt,↓Zabj,Zacz,Zaae,Zabk,Zaad,Zacu,Zacw,Zacv,Zabp,↓reduceIte,Nat.reduceEqDiff,Nat.reduceLT,dec_T,true_and,Nat.add_zero,one1,Option.bind_some, *,lenG,ldC,faG0,faG2,one1]
        exact ⟨ls.length - (i + 1),by omega,i + 1,z,rfl,by omega,hD2,rfl,rfl⟩
    · have t1:decide ((ls.getD i default).f = fr) = false:=decide_eq_false h1;have hD2:=hD.skip (fun h => absurd h h1)
      clear hD h1 l2 hlk hfit hno kX gX
      repeat' simp only [↓Zacc,↓Zabz,↓Zacb,↓Zaai,↓Zabw,↓Zaby,↓Zacy,↓Zacx,↓Zadd,↓Zabb,↓Zaaw,↓Zaan,↓Zaax,↓Zaav,↓Zaao,↓Zaas,↓Zaat,↓Zaau,↓bxOp_max,↓bxPut,↓Zabu,↓Zabt,↓Zaag,↓Zaaf,↓Zabm,↓Zabl,↓Zabr,↓Zadb,↓Zadc,↓Zade,↓Zabi,↓Zabg,↓dstAt,↓Zabj,Zacz,Zaae,Zabk,Zaac,Zact,Zacw,Zacv,Zabp,↓reduceIte,Nat.reduceEqDiff,Nat.reduceLT,dec_T,true_and,Nat.add_zero,one1,Option.bind_some, *,lenG,ldC,faG0,one1]
      exact ⟨ls.length - (i + 1),by omega,i + 1,z,rfl,by omega,hD2,rfl,rfl⟩
  have hil':¬ (i:Int) < (ls.length:Int):=by omega
  have hie:i = ls.length:=Nat.le_antisymm hi (Nat.not_lt.1 hil);rw [hie] at hD;clear hie hi hil
  by_cases hz0:z < 0
  · have t1:decide (z < 0) = true:=decide_eq_true hz0;have hp:PostRx 0 fr to by' (LateJ ls ch fr to by') H (.tuple ⟨[.int .i64 0,.slice none 0 0,.int .i64 10]⟩) Y:=⟨0,10,_,[],rfl,hK2.trans kX,jE_nilAt _,fun h => absurd rfl h,fun _ h => absurd h hft,fun _ _ => late_none hlk hD hz0 hno⟩
    clear hD l2 hlk hfit hno kX gX hz0 hft hK2
    repeat' simp only [↓Zacc,↓Zabz,↓Zacb,↓Zaai,↓Zabw,↓Zaby,↓Zacy,↓Zacx,↓Zadd,↓Zabb,↓Zaaw,↓Zaan,↓Zaax,↓Zaav,↓Zaao,↓Zaas,↓Zaat,↓Zaau,↓bxOp_max,↓bxPut,↓Zabu,↓Zabt,↓Zaag,↓Zaaf,↓Zabm,↓Zabl,↓Zabr,↓Zadb,↓Zadc,↓Zade,↓Zabi,↓Zabg,↓dstAt,↓Zabj,Zacz,Zaae,Zabk,Zacw,Zacv,Zabp,↓reduceIte,Nat.reduceEqDiff,Nat.reduceLT,dec_F, *,lenG]
  have t1:decide (z < 0) = false:=decide_eq_false hz0;have hzb:z < b:=by
    rcases hD.2 with h | ⟨k,h1,_,h2,h3⟩
    · omega
    · omega
  have hob:=mkBn Y q1;obtain ⟨Y1,mk1,kY1,oY1⟩:=hob
  repeat' simp only [↓Zacc,↓Zabz,↓Zacb,↓Zaai,↓Zabw,↓Zaby,↓Zacy,↓Zacx,↓Zadd,↓Zabb,↓Zaaw,↓Zaan,↓Zaax,↓Zaav,↓Zaao,↓Zaas,↓Zaat,↓Zaau,↓bxOp_max,↓bxPut,↓Zabu,↓Zabt,↓Zaag,↓Zaaf,↓Zabm,↓Zabl,↓Zabr,↓Zadb,↓Zadc,↓Zade,↓Zabi,↓Zabg,↓dstAt,↓Zabj,Zacz,Zaae,Zabk,Zacv,Zabp,↓reduceIte,Nat.reduceEqDiff,Nat.reduceLT,dec_F, *,lenG]
  refine sxL_of (fun m ρ V => ∃ (k:Nat) (w:List Bool),m = ls.length - k ∧ k ≤ ls.length ∧ Keep Y V ∧ Own V Y.size 4 (bvs w) ∧ w.length = ls.length ∧ (∀ j,j < k → (w.getD j false = true ↔ BegD fr z (ls.getD j default))) ∧ ρ 1 = .slice a ls.length c ∧ ρ 2 = .int .i64 ch ∧ ρ 3 = .int .i64 fr ∧ ρ 4 = .int .i64 to ∧ ρ 5 = .int .i64 by' ∧ ρ 16 = .int .i64 b ∧ ρ 17 = .int .i64 z ∧ ρ 19 = .slice (some ⟨Y.size,0,none⟩) ls.length ls.length ∧ ρ 20 = .int .i64 (k:Int))
    ⟨0,List.replicate ls.length false,rfl,Nat.zero_le _,kY1,oY1,by simp,fun j hj => absurd hj (Nat.not_lt_zero j),e1,e2,e3,e4,e5,e16,e17,rfl,rfl⟩ ?_
  clear e1 e2 e3 e4 e5 e16 e17 e18 mk1 kY1 oY1 ρ;rintro m ρ V ⟨k,w,rfl,hk,kV,oV,hw,hdn,e1,e2,e3,e4,e5,e16,e17,e19,e20⟩
  by_cases hlt:k < ls.length
  case pos =>
    have hlt':(k:Int) < (ls.length:Int):=by omega
    have hwk:IntKind.i64.wrap ((k:Int) + 1) = ((k + 1:Nat):Int):=IntWalk.i64_in _ (by omega)
    have hob:=SlG_at ((l2.keep kX).keep kV) hlt;obtain ⟨q,hix,_,rf,_,rd,_,_⟩:=hob;have hix2:=ixBn (r:=Y.size) hlt;have hst:∀ z':Bool,(z' = true ↔ BegD fr z (ls.getD k default)) → ∃ V2,aStore Try.prog V 4 (.pointer (some ⟨Y.size,k,none⟩)) (.bool z') = some V2 ∧ Keep Y V2 ∧ Own V2 Y.size 4 (bvs (w.set k z')) ∧ (w.set k z').length = ls.length ∧ ∀ j,j < k + 1 → ((w.set k z').getD j false = true ↔ BegD fr z (ls.getD j default)):=fun z' hz => by
      obtain ⟨V2,h1,h2,_,h4⟩:=storeB oV z' (o:=k) (by omega)
      refine ⟨V2,h1,h4 Y kV (Nat.le_refl _),h2,by rw [List.length_set]; exact hw,fun j hj => ?_⟩
      by_cases hjk:j = k
      · subst hjk; rw [setD_same (by omega)]; exact hz
      · rw [setD_other hjk]; exact hdn j (by omega)
    by_cases h1:(ls.getD k default).f = fr
    · have t2:decide ((ls.getD k default).f = fr) = true:=decide_eq_true h1
      by_cases h2:(ls.getD k default).d = z
      · have t3:decide ((ls.getD k default).d = z) = true:=decide_eq_true h2;have hob:=hst true ⟨fun _ => ⟨h1,h2⟩,fun _ => rfl⟩
        obtain ⟨V2,st,kV2,oV2,hwV,hdV⟩:=hob;clear hst hdn l2 kV oV hw h1 h2 hD hlk hfit hno kX gX
        repeat' simp only [↓Zacc,↓Zabz,↓Zacb,↓Zaai,↓Zabw,↓Zaby,↓Zacy,↓Zacx,↓Zadd,↓Zabb,↓Zaaw,↓Zaan,↓Zaax,↓Zaav,↓Zaay,↓Zaao,↓Zaas,↓Zaat,↓Zaau,↓Zada,↓bxPut,↓Zabu,↓Zabt,↓Zaag,↓Zaaf,↓Zabm,↓Zabl,↓Zabr,↓Zadb,↓Zadc,↓Zade,↓Zabi,↓Zabg,↓dstAt,↓Zabj,Zacz,Zaae,Zabk,Zaad,Zacu,Zacw,Zabp,↓reduceIte,Nat.reduceEqDiff,Nat.reduceLT,dec_T,true_and,Nat.add_zero,one1,Option.bind_some, *,lenG,ldC,faG0,faG2,one1]
        exact ⟨ls.length - (k + 1),by omega,k + 1,_,rfl,by omega,oV2,hwV,hdV,rfl⟩
      · have t3:decide ((ls.getD k default).d = z) = false:=decide_eq_false h2;have hob:=hst false ⟨fun h => (by cases h),fun h => absurd h.2 h2⟩
        obtain ⟨V2,st,kV2,oV2,hwV,hdV⟩:=hob;clear hst hdn l2 kV oV hw h1 h2 hD hlk hfit hno kX gX
        repeat' simp only [↓Zacc,↓Zabz,↓Zacb,↓Zaai,↓Zabw,↓Zaby,↓Zacy,↓Zacx,↓Zadd,↓Zabb,↓Zaaw,↓Zaan,↓Zaax,↓Zaav,↓Zaay,↓Zaao,↓Zaas,↓Zaat,↓Zaau,↓Zada,↓bxPut,↓Zabu,↓Zabt,↓Zaag,↓Zaaf,↓Zabm,↓Zabl,↓Zabr,↓Zadb,↓Zadc,↓Zade,↓Zabi,↓Zabg,↓dstAt,↓Zabj,Zacz,Zaae,Zabk,Zaad,Zacu,Zacw,Zabp,↓reduceIte,Nat.reduceEqDiff,Nat.reduceLT,dec_T,true_and,Nat.add_zero,one1,Option.bind_some, *,lenG,ldC,faG0,faG2,one1]
        exact ⟨ls.length - (k + 1),by omega,k + 1,_,rfl,by omega,oV2,hwV,hdV,rfl⟩
    · have t2:decide ((ls.getD k default).f = fr) = false:=decide_eq_false h1;have hob:=hst false ⟨fun h => (by cases h),fun h => absurd h.1 h1⟩
      obtain ⟨V2,st,kV2,oV2,hwV,hdV⟩:=hob;clear hst hdn l2 kV oV hw h1 hD hlk hfit hno kX gX
      repeat' simp only [↓Zacc,↓Zabz,↓Zacb,↓Zaai,↓Zabw,↓Zaby,↓Zacy,↓Zacx,↓Zadd,↓Zabb,↓Zaaw,↓Zaan,↓Zaax,↓Zaav,↓Zaay,↓Zaao,↓Zaas,↓Zaat,↓Zaau,↓Zada,↓bxPut,↓Zabu,↓Zabt,↓Zaag,↓Zaaf,↓Zabm,↓Zabl,↓Zabr,↓Zadb,↓Zadc,↓Zade,↓Zabi,↓Zabg,↓dstAt,↓Zabj,Zacz,Zaae,Zabk,Zaac,Zact,Zacw,Zabp,↓reduceIte,Nat.reduceEqDiff,Nat.reduceLT,dec_T,true_and,Nat.add_zero,one1,Option.bind_some, *,lenG,ldC,faG0,one1]
      exact ⟨ls.length - (k + 1),by omega,k + 1,_,rfl,by omega,oV2,hwV,hdV,rfl⟩
  have hlt':¬ (k:Int) < (ls.length:Int):=by omega
  have hke:k = ls.length:=Nat.le_antisymm hk (Nat.not_lt.1 hlt);rw [hke] at hdn;have kXV:=kX.trans kV;have hob:=rJourn_runs hS ls a c r o ch (BegD fr z) V Y.size w (kV.grp gX) (kV.low hLX) q1 hlk (l2.keep kXV) hfit oV hw hdn;obtain ⟨u4,V4,RJ,all,r4,o4,k4,hA,s4,hal⟩:=hob;obtain ⟨aa,ac,rfl⟩:=s4.v0;have k24:=kXV.trans k4;have hL4:=k24.low hL2;have l4:=l2.keep k24;have hob:=rFewest_runs hS ls a c r o all aa ac r4 o4 to by' V4 hL4 l4 q1 s4 hal hA.rows hA.lens
  obtain ⟨xv,x,RB,atx,hfe⟩:=hob;have f4:=RJ.bx;have f5:=RB.bx;have hob:=jE_nil atx;obtain ⟨_,nex⟩:=hob
  by_cases hx:x = []
  · subst hx;replace nex:binP Try.prog .neq 25 xv (.slice none 0 0) = some (.bool false):=nex;have hno2:=hfe.none hA hD hno;have hms:z.toNat < b.toNat:=by omega
    have hz1:0 ≤ z:=by omega
    clear hke hk hlt hdn RJ RB hfe hA s4 hal l4 hL4 k4 kXV hD hlk hfit hno kX gX hLX kV oV hw l2 atx
    repeat' simp only [↓Zacc,↓Zabz,↓Zacb,↓Zaai,↓Zabw,↓Zaby,↓Zacy,↓Zacx,↓Zadd,↓Zabb,↓Zaaw,↓Zaan,↓Zaax,↓Zaav,↓Zaay,↓Zaao,↓Zaas,↓Zaat,↓Zaau,↓Zada,↓bxPut,↓Zabu,↓Zabt,↓Zaag,↓Zaaf,↓Zabm,↓Zabl,↓Zabr,↓Zadb,↓Zadc,↓Zade,↓Zabi,↓Zabg,↓dstAt,↓Zabj,Zacz,Zaae,Zabk,Zacv,Zabp,List.map,List.append_nil,↓reduceIte,Nat.reduceEqDiff,Nat.reduceLT,dec_F,true_and, *,lenG]
    exact ⟨z.toNat,hms,z,rfl,hz1,hno2,rfl⟩
  · have hex:x.isEmpty = false:=by cases h:x with | nil => exact absurd h hx | cons _ _ => rfl
    rw [hex] at nex;replace nex:binP Try.prog .neq 25 xv (.slice none 0 0) = some (.bool true):=nex;have hp:PostRx 0 fr to by' (LateJ ls ch fr to by') H (.tuple ⟨[.int .i64 z,xv,.int .i64 0]⟩) V4:=⟨z,0,_,x,rfl,hK2.trans k24,atx,fun h => absurd rfl h,fun _ h => absurd h hft,fun _ _ => hfe.late hA hx hD hno⟩
    clear hke hk hlt hdn RJ RB hfe hA s4 hal l4 hL4 k4 kXV hD hlk hfit hno kX gX hLX kV oV hw l2 atx k24 hex hx hK2 hft
    repeat' simp only [↓Zacc,↓Zabz,↓Zacb,↓Zaai,↓Zabw,↓Zaby,↓Zacy,↓Zacx,↓Zadd,↓Zabb,↓Zaaw,↓Zaan,↓Zaax,↓Zaav,↓Zaay,↓Zaao,↓Zaas,↓Zaat,↓Zaau,↓Zada,↓bxPut,↓Zabu,↓Zabt,↓Zaag,↓Zaaf,↓Zabm,↓Zabl,↓Zabr,↓Zadb,↓Zadc,↓Zade,↓Zabi,↓Zabg,↓dstAt,↓Zabj,Zacz,Zaae,Zabk,Zacw,Zacv,Zabp,List.map,List.append_nil,↓reduceIte,Nat.reduceEqDiff,Nat.reduceLT,dec_F, *,lenG]
end Go.Proofs.Yteechkbnccpicaa

namespace Go.Proofs.Yteechkbnccpicaa
open Go Go.AM
set_option maxRecDepth 10000

structure PKJ (A Z:Heap) (ax:Option Addr) (n:Nat):Prop where
  keep:Keep A Z
  row:0 < n → ∃ b r k cells,ax = some ⟨r,0,none⟩ ∧ cells.length = n ∧ Arr (onH A) Z b r 3 1 k cells
theorem PKJ.of {A Z:Heap} {v:Value} {js:List Nat} (hk:Keep A Z) (hg:Grp A) (h0:js = [] → v = .slice none 0 0) (h1:js ≠ [] → JL A.size Z v js):∃ ax c,v = .slice ax js.length c ∧ PKJ A Z ax js.length:=by
  by_cases hj:js = []
  · subst hj;rw [h0 rfl];exact ⟨none,0,rfl,hk,fun h => absurd h (Nat.lt_irrefl 0)⟩
  · rcases h1 hj with ⟨i,r,rfl,_,rfl,h3,h4⟩ | ⟨h3,h4⟩
    · exact ⟨_,1,rfl,hk,fun _ => ⟨r,r,true,_,rfl,rfl,Arr.own hk hg h3 (fun x hx => by cases hx) h4⟩⟩
    · rcases h4 with ⟨h5,_⟩ | ⟨b,r,cells,hb,hl,ha,hf,hv,hp,hc⟩
      · rw [← castL_len,h5] at h3; simp at h3
      · rw [castL_len] at hv;refine ⟨_,_,hv,hk,fun _ => ⟨b,r,false,cells,rfl,?_,hk,hb,ha.ge,hg,(fun x hx => by cases hx),.inr ⟨rfl,ha,hf⟩⟩⟩
        rw [hc.1,castL_len]; show _ * 1 = _; omega
theorem PKJ.set {A Z:Heap} {ax:Option Addr} {n:Nat} (h:PKJ A Z ax n) {i:Nat} (hi:i < n):∃ r Z2,ax = some ⟨r,0,none⟩ ∧ aStore Try.prog Z 3 (.pointer (some ⟨r,i,none⟩)) (.int .i64 99) = some Z2 ∧ PKJ A Z2 ax n:=by
  obtain ⟨b,r,k,cells,h1,h2,h3⟩:=h.row (by omega)
  obtain ⟨inf,hi1,hi2⟩:=infoI;obtain ⟨Z2,k1,k2,_⟩:=h3.store (P:=Try.prog) (t:=3) hi1 (v:=.int .i64 99) (new:=[.int .i64 99]) rfl hi2 rfl (o:=i) (by rw [h2]; show i + 1 ≤ n; omega)
  exact ⟨r,Z2,h1,k1,k2.keep,fun _ => ⟨b,r,k,_,h1,by unfold splice; simp; omega,k2⟩⟩

variable {S:AM.Sys} (hS:Only S 11)
include hS

theorem same_runs (v1 v2:Value) (w:List Int) (r1 o1 r2 o2:Nat) (H:Heap) (hL:H.low ≤ H.size) (h1:SlI .i64 H v1 w r1 o1) (h2:SlI .i64 H v2 w r2 o2):Runs Try.prog S (.fn 14) [v1,v2] H (.bool true) H:=by
  suffices h:WCall Try.prog S (.fn 14) [v1,v2] H (fun v H' => v = .bool true ∧ H' = H) by
    obtain ⟨_,_,hr,rfl,rfl⟩:=h; exact hr
  obtain ⟨a1,c1,rfl⟩:=h1.v0;obtain ⟨a2,c2,rfl⟩:=h2.v0;have d0:decide (¬ ((w.length:Nat):Int) = ((w.length:Nat):Int)) = false:=decide_eq_false fun h => h rfl
  refine Zabc Try.func14 rfl (Nat.le_of_ble_eq_true rfl) (hS.no rfl _ _) ?_
  rw [Try.ntmps14,Try.results14]
  repeat' simp only [↓Zacc,↓Zabz,↓Zacb,↓Zaai,↓Zaaj,↓Zabw,↓Zaca,↓Zacy,↓Zacx,↓Zadd,↓Zaaw,↓Zaan,↓Zaao,↓Zaau,↓bxPut,↓Zabu,↓Zabv,↓Zabs,↓Zadb,↓Zadc,↓Zade,↓Zabi,↓Zabg,Zacz,Zaae,Zabk,Zacv,Zabo,↓reduceIte,Nat.reduceEqDiff,Nat.reduceLT,dec_F,not_true_eq_false, *,argF,List.getD_cons_zero,List.getD_cons_succ,lenIs]
  refine sxL_of (fun m ρ H1 => ∃ k:Nat,m = w.length - k ∧ k ≤ w.length ∧ H1 = H ∧ ρ 0 = .slice a1 w.length c1 ∧ ρ 1 = .slice a2 w.length c2 ∧ ρ 5 = .int .i64 (k:Int))
    ⟨0,rfl,Nat.zero_le _,rfl,rfl,rfl,rfl⟩ ?_
  rintro m ρ H1 ⟨k,rfl,hk,rfl,e0,e1,e5⟩
  by_cases hlt:k < w.length
  · have hlt':(k:Int) < (w.length:Int):=by omega
    have hw:=wrap_succ hlt h1.ml;have hob:=SlI_at h1 hlt;obtain ⟨p1,q1⟩:=hob;have hob:=SlI_at h2 hlt;obtain ⟨p2,q2⟩:=hob;have d1:decide (¬ w.getD k 0 = w.getD k 0) = false:=decide_eq_false fun h => h rfl
    clear h1 h2 d0
    repeat' (first | simp only [↓Zacc,↓Zabx,↓Zabz,↓Zacb,↓Zaai,↓Zabw,↓Zaby,↓Zaca,↓Zacy,↓Zacx,↓Zacq,↓Zaak,↓Zacl,↓Zack,↓Zacg,↓Zacj,↓Zacp,↓Zadd,↓Zaaw,↓Zaan,↓Zaav,↓Zaao,↓Zaat,↓Zaau,↓bxPut,↓Zabu,↓Zabt,↓Zabv,↓Zaag,↓Zaah,↓Zaaf,↓Zabm,↓Zabl,↓Zabn,↓Zabs,↓Zadb,↓Zadc,↓Zade,↓Zabi,↓Zabg,Zacz,Zaae,Zabk,Zacw,Zacv,Zabo,↓reduceIte,Nat.reduceEqDiff,Nat.reduceLT,dec_T,dec_F,true_and,Zaab,one1,Option.bind_some,not_true_eq_false, *,lenIs,ldC,one1] | (with_reducible first | refine Zacf (by assumption) (by decide +kernel) ?_ | refine Zace (by decide +kernel) ?_ | refine Zaco (by decide +kernel) ?_ | refine Zach ?_))
    exact ⟨w.length - (k + 1),by omega,k + 1,rfl,by omega,rfl⟩
  · have hke:k = w.length:=by omega
    subst hke;have hlt':¬ (((w.length:Nat):Int) < ((w.length:Nat):Int)):=by omega
    clear h1 h2 d0
    repeat' (first | simp only [↓Zacc,↓Zabx,↓Zabz,↓Zacb,↓Zaai,↓Zabw,↓Zaby,↓Zaca,↓Zacy,↓Zacx,↓Zacq,↓Zaak,↓Zacl,↓Zack,↓Zacg,↓Zacj,↓Zadd,↓Zaaw,↓Zaan,↓Zaav,↓Zaao,↓Zaat,↓Zaau,↓bxPut,↓Zabu,↓Zabt,↓Zabv,↓Zaag,↓Zaah,↓Zaaf,↓Zabm,↓Zabl,↓Zabn,↓Zabs,↓Zadb,↓Zadc,↓Zade,↓Zabi,↓Zabg,Zacz,Zaae,Zabk,Zacv,Zabo,↓reduceIte,Nat.reduceEqDiff,Nat.reduceLT,dec_F,and_self, *,lenIs] | (with_reducible first | refine Zacf (by assumption) (by decide +kernel) ?_ | refine Zace (by decide +kernel) ?_ | refine Zaco (by decide +kernel) ?_ | refine Zach ?_))
end Go.Proofs.Yteechkbnccpicaa

namespace Go.Proofs.Yteechkbnccpicaa
open Go Go.AM
set_option maxRecDepth 10000

theorem jE_slL {X:Heap} {js:List Nat} {v:Value} (h:jE.At X js [v]):∃ r o,SlI .i64 X v (castL js) r o:=by
  obtain ⟨⟨v',r,o,e,hs⟩,_⟩:=h;cases e; exact ⟨r,o,hs⟩

variable {S:AM.Sys} (hS:Only S 11)
include hS

set_option maxHeartbeats 8000000 in
theorem lawLate_runs (n:Int) (ls:List Lg) (lv:Value) (r o:Nat) (ch fr to by':Int) (H:Heap) (hL:H.low ≤ H.size) (hg:Grp H) (hl:SlG H lv ls r o) (hat:R64 by') (hO:∀ H',S.O 11 [] H') :
    ∃ H',Runs Try.prog S (.fn 4) [.int .i64 n,lv,.int .i64 ch,.int .i64 fr,.int .i64 to,.int .i64 by'] H (.bool true) H':=by
  suffices h:WCall Try.prog S (.fn 4) [.int .i64 n,lv,.int .i64 ch,.int .i64 fr,.int .i64 to,.int .i64 by'] H (fun v H' => v = .bool true) by
    obtain ⟨_,H',hr,rfl⟩:=h; exact ⟨H',hr⟩
  have hk1:∀ (H':Heap) (K:Value → Heap → Prop) (b:Blk K),sxCallB Try.prog S (.fn 11) [] H' K b = K (.bool true) H':=fun H' K b => known_bx (hO H')
  have hlv:=hl.v0;obtain ⟨a,c,rfl⟩:=hlv;have f0:=(few_runs hS a ls.length c H).bx
  by_cases h80:(ls.length:Int) ≤ 80
  case neg =>
    rw [decide_eq_false h80] at f0;clear hl h80;refine Zabc Try.func4 rfl (Nat.le_of_ble_eq_true rfl) (hS.no rfl _ _) ?_
    rw [Try.ntmps4,Try.results4]
    repeat' simp only [↓Zacc,↓Zabz,↓Zacb,↓Zaai,↓Zaca,↓Zacy,↓Zacx,↓Zadd,↓Zabb,↓Zaaw,↓Zaan,↓Zaax,↓Zaao,↓Zaaz,↓Zaar,↓Zaba,↓bxPut,↓Zabu,↓Zabv,↓Zabs,↓Zadb,↓Zadc,↓Zade,↓Zabi,↓Zabg,↓Zabh,↓dstAt,↓Zabj,Zacz,una_nf,Zacd,Zacw,Zabo,List.map,List.nil_append,List.append_nil,↓reduceIte,Nat.reduceEqDiff,Nat.reduceLT, *,argF,List.getD_cons_zero,List.getD_cons_succ]
  rw [decide_eq_true h80] at f0;have ey0:∀ x y z:Value,aExtract (.tuple ⟨[x,y,z]⟩) 0 = some x:=fun x y z => by kernel_rfl
  have ey1:∀ x y z:Value,aExtract (.tuple ⟨[x,y,z]⟩) 1 = some y:=fun x y z => by kernel_rfl
  have ey2:∀ x y z:Value,aExtract (.tuple ⟨[x,y,z]⟩) 2 = some z:=fun x y z => by kernel_rfl
  have hob:=Late_runs hS n ls _ r o ch fr to by' hat H hL hg hl
  obtain ⟨u4,X2,hR4,a4,f4,xv,js,rfl,kX2,hj0,hj1,ha1,ha2,ha3⟩:=hob;have hL2:=kX2.low hL;have hob:=rLate_runs hS n ls _ r o ch fr to by' hat X2 hL2 (kX2.grp hg) (hl.keep kX2)
  obtain ⟨u3,H3,hR3,b3,f3,yv,ks,rfl,k3,aty,hb1,hb2,hb3⟩:=hob;have hge:∃ e0,errC n ls ch fr to [by'] = e0:=⟨_,rfl⟩
  obtain ⟨e0,he0⟩:=hge;rw [he0] at ha1 ha2 ha3 hb1 hb2 hb3;have hQ:a4 = b3 ∧ f4 = f3 ∧ js = ks:=by
    by_cases h0:e0 = 0
    · by_cases hft:fr = to
      · obtain ⟨g1,g2,g3⟩:=ha2 h0 hft;obtain ⟨g4,g5,g6⟩:=hb2 h0 hft;exact ⟨g1.trans g4.symm,g2.trans g5.symm,g3.trans g6.symm⟩
      · exact (ha3 h0 hft).eq (hb3 h0 hft)
    · obtain ⟨g1,g2,g3⟩:=ha1 h0;obtain ⟨g4,g5,g6⟩:=hb1 h0;exact ⟨g1.trans g4.symm,g2.trans g5.symm,g3.trans g6.symm⟩
  obtain ⟨rfl,rfl,rfl⟩:=hQ;have hob:=jE_slL aty;obtain ⟨ry,oy,sy⟩:=hob;have hsx:∃ rx,SlI .i64 H3 xv (castL js) rx 0:=by
    by_cases hz:js = []
    · subst hz; rw [hj0 rfl]; exact ⟨0,nilI H3⟩
    · have hjm:js.length ≤ 100000 ∧ ∀ j ∈ js,j ≤ 1000:=by
        by_cases h0:e0 = 0
        · by_cases hft:fr = to
          · exact absurd (ha2 h0 hft).2.2 hz
          · rw [h0] at he0;obtain ⟨q1,q2,q3,q4⟩:=errC_zero he0;rcases ha3 h0 hft with ⟨_,_,h,_⟩ | ⟨_,i,s,rfl,hs,_⟩
            · exact absurd h hz
            · have hlk:=LOk.of q2 q3;have:=hs.is.len hlk;exact ⟨by simp; omega,fun j hj => by have:=hs.is.mem_lt j hj; omega⟩
        · exact absurd (ha1 h0).2.2 hz
      exact ((hj1 hz).keep k3).sl hjm.1 hjm.2
  obtain ⟨rx,sx⟩:=hsx;have hE:=same_runs hS xv yv (castL js) rx 0 ry oy H3 (k3.low hL2) sx sy;have f5:=hR4.bx;have f6:=hE.bx;have f7:=hR3.bx;have dd:decide (a4 = a4) = true:=decide_eq_true rfl;have dd2:decide (f4 = f4) = true:=decide_eq_true rfl;clear hR4 hE hR3 ha1 ha2 ha3 hb1 hb2 hb3 hj0 hj1 sx sy kX2 hl h80 he0 aty k3;refine Zabc Try.func4 rfl (Nat.le_of_ble_eq_true rfl) (hS.no rfl _ _) ?_
  rw [Try.ntmps4,Try.results4]
  repeat' simp only [↓Zacc,↓Zabz,↓Zacb,↓Zaai,↓Zaca,↓Zacy,↓Zacx,↓Zadd,↓Zabb,↓Zaaw,↓Zaan,↓Zaax,↓Zaao,↓Zaaz,↓Zaar,↓Zaba,↓bxPut,↓Zabu,↓Zabv,↓Zabs,↓Zadb,↓Zadc,↓Zade,↓Zabi,↓Zabg,↓Zabh,↓dstAt,↓Zabj,Zacz,Zaae,Zabk,una_nt,Zaad,Zacd,Zacu,Zacv,Zabo,List.map,List.nil_append,List.append_nil,↓reduceIte,Nat.reduceEqDiff,Nat.reduceLT,dec_T, *,argF,List.getD_cons_zero,List.getD_cons_succ]
end Go.Proofs.Yteechkbnccpicaa
