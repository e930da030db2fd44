/- What the reference checks of a timetable. -/
import Derived.Test.YteechkbnccpicaaU1
set_option linter.unusedVariables false
set_option linter.unusedSimpArgs false
set_option linter.unusedSectionVars false

namespace Go.Proofs.Yteechkbnccpicaa
open Go Go.AM
set_option maxRecDepth 10000

theorem newG5 (H:Heap) (x:Lg):∃ H2,aStore Try.prog (H.newExact [.int .i64 0,.int .i64 0,.int .i64 0,.int .i64 0,.int .i64 0] 61) 61 (.pointer (some ⟨H.size,0,none⟩)) (.agg ⟨lc x⟩) = some H2 ∧ Keep H H2 ∧
    H2.read H.size 0 1 = some [.int .i64 x.f] ∧ H2.read H.size 1 1 = some [.int .i64 x.t] ∧ H2.read H.size 2 1 = some [.int .i64 x.d] ∧ H2.read H.size 3 1 = some [.int .i64 x.a] ∧ H2.read H.size 4 1 = some [.int .i64 x.l]:=by
  obtain ⟨H2,h1,h2,h3⟩:=newG H x;have hs:=fun j (hj:j + 1 ≤ 5) => read_sub h3 hj
  refine ⟨H2,h1,h2,?_,?_,?_,?_,?_⟩
  · exact hs 0 (by omega)
  · have h:=hs 1 (by omega)
    rw [Nat.zero_add] at h;exact h
  · have h:=hs 2 (by omega)
    rw [Nat.zero_add] at h;exact h
  · have h:=hs 3 (by omega)
    rw [Nat.zero_add] at h;exact h
  · have h:=hs 4 (by omega)
    rw [Nat.zero_add] at h;exact h

variable {S:AM.Sys} (hS:Only S 11)
include hS

set_option maxHeartbeats 4000000 in
theorem good_runs (n:Int) (ls:List Lg) (v:Value) (r o:Nat) (ch fr to:Int) (ts:List Int) (v2:Value) (r2 o2:Nat) (H:Heap) (hl:SlG H v ls r o) (ht:SlI .i64 H v2 ts r2 o2) :
    ∃ H',Keep H H' ∧ Runs Try.prog S (.fn 30) [.int .i64 n,v,.int .i64 ch,.int .i64 fr,.int .i64 to,v2] H (.int .i64 (errC n ls ch fr to ts)) H':=by
  suffices h:WCall Try.prog S (.fn 30) [.int .i64 n,v,.int .i64 ch,.int .i64 fr,.int .i64 to,v2] H (fun u H' => PostC H (errC n ls ch fr to ts) u H') by
    obtain ⟨_,H',hr,rfl,h⟩:=h; exact ⟨H',h,hr⟩
  obtain ⟨a,c,rfl⟩:=hl.v0;obtain ⟨a2,c2,rfl⟩:=ht.v0;have hgo:∃ er,er = errC n ls ch fr to ts:=⟨_,rfl⟩;obtain ⟨er,he⟩:=hgo;rw [← he];unfold errC at he;refine Zaba Try.func30 rfl (Nat.le_of_ble_eq_true rfl) (hS.no rfl _ _) ?_
  rw [Try.ntmps30,Try.results30]
  by_cases hn:1 ≤ n ∧ n ≤ 8
  case neg =>
    rw [if_pos hn] at he;have hpost:PostC H er (.int .i64 2) H:=by rw [he]; exact ⟨rfl,Keep.refl _⟩
    by_cases hn1:n < 1
    · clear he hn hl ht
      repeat' simp only [↓Zaca,↓Zabx,↓Zabz,↓Zaai,↓Zaaj,↓Zabu,↓Zaby,↓Zacw,↓Zacv,↓Zadb,↓Zaaz,↓Zaau,↓Zaam,↓Zaav,↓Zaan,↓Zaas,↓bxPut,↓Zabs,↓Zabt,↓Zabq,↓Zacz,↓Zada,↓Zadc,↓Zabg,↓Zabe,↓dstAt,↓Zabh,Zacx,Zaae,Zabi,Zaad,Zacq,Zacu,Zabm,↓reduceIte,Nat.reduceEqDiff,Nat.reduceLT,dec_T, *,argF,List.getD_cons_zero]
    · have hn8:8 < n:=by omega
      clear he hn hl ht
      repeat' simp only [↓Zaca,↓Zabx,↓Zabz,↓Zaai,↓Zaaj,↓Zabu,↓Zaby,↓Zacw,↓Zacv,↓Zadb,↓Zaaz,↓Zaau,↓Zaam,↓Zaav,↓Zaan,↓Zaas,↓bxPut,↓Zabs,↓Zabt,↓Zabq,↓Zacz,↓Zada,↓Zadc,↓Zabg,↓Zabe,↓dstAt,↓Zabh,Zacx,Zaae,Zabi,Zaac,Zacp,Zacu,Zabm,↓reduceIte,Nat.reduceEqDiff,Nat.reduceLT,dec_T,dec_F, *,argF,List.getD_cons_zero]
  rw [if_neg (fun h => h hn)] at he
  have hn1:¬ n < 1:=by omega
  have hn8:¬ 8 < n:=by omega
  by_cases h60:60 < ls.length
  · rw [if_pos h60] at he;have h60':(60:Int) < (ls.length:Int):=by omega
    have hpost:PostC H er (.int .i64 3) H:=by rw [he]; exact ⟨rfl,Keep.refl _⟩
    clear he hn hl ht h60
    repeat' simp only [↓Zaca,↓Zabx,↓Zabz,↓Zaai,↓Zaaj,↓Zabu,↓Zaby,↓Zacw,↓Zacv,↓Zadb,↓Zaaz,↓Zaau,↓Zaam,↓Zaav,↓Zaan,↓Zaas,↓bxPut,↓Zabs,↓Zabt,↓Zabq,↓Zacz,↓Zada,↓Zadc,↓Zabg,↓Zabe,↓dstAt,↓Zabh,Zacx,Zaae,Zabi,Zaac,Zacp,Zacu,Zact,Zabm,↓reduceIte,Nat.reduceEqDiff,Nat.reduceLT,dec_T,dec_F, *,argF,List.getD_cons_zero,List.getD_cons_succ,lenG]
  rw [if_neg h60] at he;have h60':¬ (60:Int) < (ls.length:Int):=by omega
  have hml:=hl.ml;have hml2:=ht.ml
  repeat' simp only [↓Zaca,↓Zabx,↓Zabz,↓Zaai,↓Zaaj,↓Zabu,↓Zaby,↓Zacw,↓Zacv,↓Zadb,↓Zaaz,↓Zaau,↓Zaam,↓Zaav,↓Zaan,↓Zaas,↓bxPut,↓Zabs,↓Zabt,↓Zabq,↓Zacz,↓Zada,↓Zadc,↓Zabg,↓Zabe,↓dstAt,↓Zabh,Zacx,Zaae,Zabi,Zaac,Zacp,Zact,Zabm,↓reduceIte,Nat.reduceEqDiff,Nat.reduceLT,dec_F, *,argF,List.getD_cons_zero,List.getD_cons_succ,lenG]
  refine sxL_of (fun m ρ H1 => ∃ k:Nat,m = ls.length - k ∧ k ≤ ls.length ∧ Keep H H1 ∧ (∀ j,j < k → LegOk n (ls.getD j default)) ∧
      ρ 0 = .int .i64 n ∧ ρ 1 = .slice a ls.length c ∧ ρ 2 = .int .i64 ch ∧ ρ 3 = .int .i64 fr ∧ ρ 4 = .int .i64 to ∧ ρ 5 = .slice a2 ts.length c2 ∧ ρ 13 = .int .i64 (k:Int))
    ⟨0,rfl,Nat.zero_le _,Keep.refl _,fun j hj => absurd hj (Nat.not_lt_zero j),rfl,rfl,rfl,rfl,rfl,rfl,rfl⟩ ?_
  rintro m ρ H1 ⟨k,rfl,hk,hK1,hall,e0,e1,e2,e3,e4,e5,e13⟩
  by_cases hlt:k < ls.length
  · have hlt':(k:Int) < (ls.length:Int):=by omega
    have hw:=wrap_succ hlt hml;have hob:=SlG_at (hl.keep hK1) hlt;obtain ⟨q,hix,hrd,_⟩:=hob;have hng:=newG5 H1 (ls.getD k default);obtain ⟨H2,s2,hK2,g0,g1,g2,g3,g4⟩:=hng;have hal:=alG H1;have hK12:=hK1.trans hK2;have hall':LegOk n (ls.getD k default) → ∀ j,j < k + 1 → LegOk n (ls.getD j default):=fun hok j hj => by
      rcases Nat.lt_or_ge j k with h | h
      · exact hall j h
      · rw [show j = k by omega]; exact hok
    have hbad:¬ LegOk n (ls.getD k default) → PostC H er (.int .i64 2) H2:=fun hok => by
      rw [if_pos (fun h => hok (h _ (getD_mem hlt)))] at he
      rw [he]; exact ⟨rfl,hK12⟩
    have hxg:∃ x,x = ls.getD k default:=⟨_,rfl⟩;obtain ⟨x,hx⟩:=hxg;rw [← hx] at hrd s2 g0 g1 g2 g3 g4 hall' hbad;clear hall he hl ht hx;have key:LegOk n x ↔ ¬ x.f < 0 ∧ ¬ n ≤ x.f ∧ ¬ x.t < 0 ∧ ¬ n ≤ x.t ∧ ¬ x.f = x.t ∧ ¬ x.d < 0 ∧ ¬ x.a ≤ x.d ∧ ¬ 10000 < x.a ∧ ¬ x.l < 0 ∧ ¬ 20 < x.l:=by
      unfold LegOk; omega
    by_cases c1:x.f < 0
    · have hpost:=hbad (fun h => (key.1 h).1 c1)
      clear key hbad hall'
      repeat' simp only [↓Zaca,↓Zabx,↓Zabz,↓Zaai,↓Zabu,↓Zabw,↓Zaby,↓Zacw,↓Zacv,↓Zadb,↓Zaaz,↓Zaau,↓Zaam,↓Zaav,↓Zaal,↓Zaat,↓Zaaw,↓Zaan,↓Zaaq,↓Zaar,↓Zaas,↓Zacy,↓bxPut,↓Zabs,↓Zabr,↓Zabt,↓Zaag,↓Zaah,↓Zaaf,↓Zabk,↓Zabj,↓Zabl,↓Zabq,↓Zacz,↓Zada,↓Zadc,↓Zabg,↓Zabe,↓dstAt,↓Zabh,Zacx,Zaae,Zabi,Zaad,Zacq,Zacu,Zabm,↓reduceIte,Nat.reduceEqDiff,Nat.reduceLT,dec_T,Nat.add_zero,one1,Option.bind_some,Option.map_some, *,lenG,ldG,ldC,one1,faG0]
    by_cases c2:n ≤ x.f
    · have hpost:=hbad (fun h => (key.1 h).2.1 c2)
      clear key hbad hall'
      repeat' simp only [↓Zaca,↓Zabx,↓Zabz,↓Zaai,↓Zabu,↓Zabw,↓Zaby,↓Zacw,↓Zacv,↓Zadb,↓Zaaz,↓Zaau,↓Zaam,↓Zaav,↓Zaal,↓Zaat,↓Zaaw,↓Zaan,↓Zaaq,↓Zaar,↓Zaas,↓Zacy,↓bxPut,↓Zabs,↓Zabr,↓Zabt,↓Zaag,↓Zaah,↓Zaaf,↓Zabk,↓Zabj,↓Zabl,↓Zabq,↓Zacz,↓Zada,↓Zadc,↓Zabg,↓Zabe,↓dstAt,↓Zabh,Zacx,Zaae,Zabi,Zaad,Zaac,Zacq,Zacp,Zacu,Zabm,↓reduceIte,Nat.reduceEqDiff,Nat.reduceLT,dec_T,dec_F,Nat.add_zero,one1,Option.bind_some,Option.map_some, *,lenG,ldG,ldC,one1,faG0]
    by_cases c3:x.t < 0
    · have hpost:=hbad (fun h => (key.1 h).2.2.1 c3)
      clear key hbad hall'
      repeat' simp only [↓Zaca,↓Zabx,↓Zabz,↓Zaai,↓Zabu,↓Zabw,↓Zaby,↓Zacw,↓Zacv,↓Zadb,↓Zaaz,↓Zaau,↓Zaam,↓Zaav,↓Zaal,↓Zaat,↓Zaaw,↓Zaan,↓Zaaq,↓Zaar,↓Zaas,↓Zacy,↓bxPut,↓Zabs,↓Zabr,↓Zabt,↓Zaag,↓Zaah,↓Zaaf,↓Zabk,↓Zabj,↓Zabl,↓Zabq,↓Zacz,↓Zada,↓Zadc,↓Zabg,↓Zabe,↓dstAt,↓Zabh,Zacx,Zaae,Zabi,Zaad,Zaac,Zacq,Zacp,Zacu,Zabm,↓reduceIte,Nat.reduceEqDiff,Nat.reduceLT,dec_T,dec_F,Nat.add_zero,one1,Option.bind_some,Option.map_some, *,lenG,ldG,ldC,one1,faG0,faG1]
    by_cases c4:n ≤ x.t
    · have hpost:=hbad (fun h => (key.1 h).2.2.2.1 c4)
      clear key hbad hall'
      repeat' simp only [↓Zaca,↓Zabx,↓Zabz,↓Zaai,↓Zabu,↓Zabw,↓Zaby,↓Zacw,↓Zacv,↓Zadb,↓Zaaz,↓Zaau,↓Zaam,↓Zaav,↓Zaal,↓Zaat,↓Zaaw,↓Zaan,↓Zaaq,↓Zaar,↓Zaas,↓Zacy,↓bxPut,↓Zabs,↓Zabr,↓Zabt,↓Zaag,↓Zaah,↓Zaaf,↓Zabk,↓Zabj,↓Zabl,↓Zabq,↓Zacz,↓Zada,↓Zadc,↓Zabg,↓Zabe,↓dstAt,↓Zabh,Zacx,Zaae,Zabi,Zaad,Zaac,Zacq,Zacp,Zacu,Zabm,↓reduceIte,Nat.reduceEqDiff,Nat.reduceLT,dec_T,dec_F,Nat.add_zero,one1,Option.bind_some,Option.map_some, *,lenG,ldG,ldC,one1,faG0,faG1]
    by_cases c5:x.f = x.t
    · have hpost:=hbad (fun h => (key.1 h).2.2.2.2.1 c5)
      have d5:decide (x.f = x.t) = true:=decide_eq_true c5;clear c5;clear key hbad hall'
      repeat' simp only [↓Zaca,↓Zabx,↓Zabz,↓Zaai,↓Zabu,↓Zabw,↓Zaby,↓Zacw,↓Zacv,↓Zadb,↓Zaaz,↓Zaau,↓Zaam,↓Zaav,↓Zaal,↓Zaat,↓Zaaw,↓Zaan,↓Zaaq,↓Zaar,↓Zaas,↓Zacy,↓bxPut,↓Zabs,↓Zabr,↓Zabt,↓Zaag,↓Zaah,↓Zaaf,↓Zabk,↓Zabj,↓Zabl,↓Zabq,↓Zacz,↓Zada,↓Zadc,↓Zabg,↓Zabe,↓dstAt,↓Zabh,Zacx,Zaae,Zabi,Zaad,Zaac,Zacq,Zacp,Zacu,Zabm,↓reduceIte,Nat.reduceEqDiff,Nat.reduceLT,dec_T,dec_F,Nat.add_zero,one1,Option.bind_some,Option.map_some, *,lenG,ldG,ldC,one1,faG0,faG1]
    have d5:decide (x.f = x.t) = false:=decide_eq_false c5
    by_cases c6:x.d < 0
    · have hpost:=hbad (fun h => (key.1 h).2.2.2.2.2.1 c6)
      clear key hbad hall'
      repeat' simp only [↓Zaca,↓Zabx,↓Zabz,↓Zaai,↓Zabu,↓Zabw,↓Zaby,↓Zacw,↓Zacv,↓Zadb,↓Zaaz,↓Zaau,↓Zaam,↓Zaav,↓Zaal,↓Zaat,↓Zaaw,↓Zaan,↓Zaaq,↓Zaar,↓Zaas,↓Zacy,↓bxPut,↓Zabs,↓Zabr,↓Zabt,↓Zaag,↓Zaah,↓Zaaf,↓Zabk,↓Zabj,↓Zabl,↓Zabq,↓Zacz,↓Zada,↓Zadc,↓Zabg,↓Zabe,↓dstAt,↓Zabh,Zacx,Zaae,Zabi,Zaad,Zaac,Zacq,Zacp,Zacu,Zabm,↓reduceIte,Nat.reduceEqDiff,Nat.reduceLT,dec_T,dec_F,Nat.add_zero,one1,Option.bind_some,Option.map_some, *,lenG,ldG,ldC,one1,faG0,faG1,faG2]
    by_cases c7:x.a ≤ x.d
    · have hpost:=hbad (fun h => (key.1 h).2.2.2.2.2.2.1 c7)
      clear key hbad hall'
      repeat' simp only [↓Zaca,↓Zabx,↓Zabz,↓Zaai,↓Zabu,↓Zabw,↓Zaby,↓Zacw,↓Zacv,↓Zadb,↓Zaaz,↓Zaau,↓Zaam,↓Zaav,↓Zaal,↓Zaat,↓Zaaw,↓Zaan,↓Zaaq,↓Zaar,↓Zaas,↓Zacy,↓bxPut,↓Zabs,↓Zabr,↓Zabt,↓Zaag,↓Zaah,↓Zaaf,↓Zabk,↓Zabj,↓Zabl,↓Zabq,↓Zacz,↓Zada,↓Zadc,↓Zabg,↓Zabe,↓dstAt,↓Zabh,Zacx,Zaae,Zabi,Zaad,Zaac,Zacq,Zacp,Zacu,Zabm,↓reduceIte,Nat.reduceEqDiff,Nat.reduceLT,dec_T,dec_F,Nat.add_zero,one1,Option.bind_some,Option.map_some, *,lenG,ldG,ldC,one1,faG0,faG1,faG2,faG3]
    by_cases c8:10000 < x.a
    · have hpost:=hbad (fun h => (key.1 h).2.2.2.2.2.2.2.1 c8)
      clear key hbad hall'
      repeat' simp only [↓Zaca,↓Zabx,↓Zabz,↓Zaai,↓Zabu,↓Zabw,↓Zaby,↓Zacw,↓Zacv,↓Zadb,↓Zaaz,↓Zaau,↓Zaam,↓Zaav,↓Zaal,↓Zaat,↓Zaaw,↓Zaan,↓Zaaq,↓Zaar,↓Zaas,↓Zacy,↓bxPut,↓Zabs,↓Zabr,↓Zabt,↓Zaag,↓Zaah,↓Zaaf,↓Zabk,↓Zabj,↓Zabl,↓Zabq,↓Zacz,↓Zada,↓Zadc,↓Zabg,↓Zabe,↓dstAt,↓Zabh,Zacx,Zaae,Zabi,Zaad,Zaac,Zacq,Zacp,Zacu,Zabm,↓reduceIte,Nat.reduceEqDiff,Nat.reduceLT,dec_T,dec_F,Nat.add_zero,one1,Option.bind_some,Option.map_some, *,lenG,ldG,ldC,one1,faG0,faG1,faG2,faG3]
    by_cases c9:x.l < 0
    · have hpost:=hbad (fun h => (key.1 h).2.2.2.2.2.2.2.2.1 c9)
      clear key hbad hall'
      repeat' simp only [↓Zaca,↓Zabx,↓Zabz,↓Zaai,↓Zabu,↓Zabw,↓Zaby,↓Zacw,↓Zacv,↓Zadb,↓Zaaz,↓Zaau,↓Zaam,↓Zaav,↓Zaal,↓Zaat,↓Zaaw,↓Zaan,↓Zaaq,↓Zaar,↓Zaas,↓Zacy,↓bxPut,↓Zabs,↓Zabr,↓Zabt,↓Zaag,↓Zaah,↓Zaaf,↓Zabk,↓Zabj,↓Zabl,↓Zabq,↓Zacz,↓Zada,↓Zadc,↓Zabg,↓Zabe,↓dstAt,↓Zabh,Zacx,Zaae,Zabi,Zaad,Zaac,Zacq,Zacp,Zacu,Zabm,↓reduceIte,Nat.reduceEqDiff,Nat.reduceLT,dec_T,dec_F,Nat.add_zero,one1,Option.bind_some,Option.map_some, *,lenG,ldG,ldC,one1,faG0,faG1,faG2,faG3,faG4]
    by_cases c10:20 < x.l
    · have hpost:=hbad (fun h => (key.1 h).2.2.2.2.2.2.2.2.2 c10)
      clear key hbad hall'
      repeat' simp only [↓Zaca,↓Zabx,↓Zabz,↓Zaai,↓Zabu,↓Zabw,↓Zaby,↓Zacw,↓Zacv,↓Zadb,↓Zaaz,↓Zaau,↓Zaam,↓Zaav,↓Zaal,↓Zaat,↓Zaaw,↓Zaan,↓Zaaq,↓Zaar,↓Zaas,↓Zacy,↓bxPut,↓Zabs,↓Zabr,↓Zabt,↓Zaag,↓Zaah,↓Zaaf,↓Zabk,↓Zabj,↓Zabl,↓Zabq,↓Zacz,↓Zada,↓Zadc,↓Zabg,↓Zabe,↓dstAt,↓Zabh,Zacx,Zaae,Zabi,Zaac,Zacp,Zacu,Zabm,↓reduceIte,Nat.reduceEqDiff,Nat.reduceLT,dec_T,dec_F,Nat.add_zero,one1,Option.bind_some,Option.map_some, *,lenG,ldG,ldC,one1,faG0,faG1,faG2,faG3,faG4]
    have hall'':=hall' (key.2 ⟨c1,c2,c3,c4,c5,c6,c7,c8,c9,c10⟩);clear key hbad hall' c5
    repeat' simp only [↓Zaca,↓Zabx,↓Zabz,↓Zaai,↓Zabu,↓Zabw,↓Zaby,↓Zacw,↓Zacv,↓Zadb,↓Zaaz,↓Zaau,↓Zaam,↓Zaav,↓Zaal,↓Zaat,↓Zaaw,↓Zaan,↓Zaaq,↓Zaar,↓Zaas,↓Zacy,↓bxPut,↓Zabs,↓Zabr,↓Zabt,↓Zaag,↓Zaah,↓Zaaf,↓Zabk,↓Zabj,↓Zabl,↓Zabq,↓Zacz,↓Zada,↓Zadc,↓Zabg,↓Zabe,↓dstAt,↓Zabh,Zacx,Zaae,Zabi,Zaac,Zacp,Zacu,Zact,Zabm,↓reduceIte,Nat.reduceEqDiff,Nat.reduceLT,dec_T,dec_F,true_and,Nat.add_zero,one1,Option.bind_some,Option.map_some, *,lenG,ldG,ldC,one1,faG0,faG1,faG2,faG3,faG4]
    exact ⟨ls.length - (k + 1),by omega,k + 1,rfl,by omega,hall'',rfl⟩
  have hlt':¬ (k:Int) < (ls.length:Int):=by omega
  have hke:k = ls.length:=by omega
  subst hke;have hno:¬ (((ls.length:Nat):Int) < ((ls.length:Nat):Int)):=by omega
  rw [if_neg (fun h => h (all_of hall))] at he
  by_cases hb:¬ (0 ≤ ch ∧ ch ≤ 100) ∨ ¬ (0 ≤ fr ∧ fr ≤ n - 1) ∨ ¬ (0 ≤ to ∧ to ≤ n - 1)
  · rw [if_pos hb] at he;have hpost:PostC H er (.int .i64 2) H1:=by rw [he]; exact ⟨rfl,hK1⟩
    have key:(¬ ch < 0 ∧ ¬ 100 < ch ∧ ¬ fr < 0 ∧ ¬ n ≤ fr ∧ ¬ to < 0 ∧ ¬ n ≤ to) → False:=fun h => by omega
    clear he hl ht hall hb
    by_cases w1:ch < 0
    · clear key
      repeat' simp only [↓Zaca,↓Zabx,↓Zabz,↓Zaai,↓Zabu,↓Zabw,↓Zaby,↓Zacw,↓Zacv,↓Zadb,↓Zaaz,↓Zaau,↓Zaam,↓Zaav,↓Zaal,↓Zaat,↓Zaaw,↓Zaan,↓Zaaq,↓Zaar,↓Zaas,↓Zacy,↓bxPut,↓Zabs,↓Zabr,↓Zabt,↓Zaag,↓Zaah,↓Zaaf,↓Zabk,↓Zabj,↓Zabl,↓Zabq,↓Zacz,↓Zada,↓Zadc,↓Zabg,↓Zabe,↓dstAt,↓Zabh,Zacx,Zaae,Zabi,Zaad,Zacq,Zacu,Zact,Zabm,↓reduceIte,Nat.reduceEqDiff,Nat.reduceLT,dec_T,dec_F, *,lenG]
    by_cases w2:100 < ch
    · clear key
      repeat' simp only [↓Zaca,↓Zabx,↓Zabz,↓Zaai,↓Zabu,↓Zabw,↓Zaby,↓Zacw,↓Zacv,↓Zadb,↓Zaaz,↓Zaau,↓Zaam,↓Zaav,↓Zaal,↓Zaat,↓Zaaw,↓Zaan,↓Zaaq,↓Zaar,↓Zaas,↓Zacy,↓bxPut,↓Zabs,↓Zabr,↓Zabt,↓Zaag,↓Zaah,↓Zaaf,↓Zabk,↓Zabj,↓Zabl,↓Zabq,↓Zacz,↓Zada,↓Zadc,↓Zabg,↓Zabe,↓dstAt,↓Zabh,Zacx,Zaae,Zabi,Zaad,Zaac,Zacq,Zacp,Zacu,Zact,Zabm,↓reduceIte,Nat.reduceEqDiff,Nat.reduceLT,dec_T,dec_F, *,lenG]
    by_cases w3:fr < 0
    · clear key
      repeat' simp only [↓Zaca,↓Zabx,↓Zabz,↓Zaai,↓Zabu,↓Zabw,↓Zaby,↓Zacw,↓Zacv,↓Zadb,↓Zaaz,↓Zaau,↓Zaam,↓Zaav,↓Zaal,↓Zaat,↓Zaaw,↓Zaan,↓Zaaq,↓Zaar,↓Zaas,↓Zacy,↓bxPut,↓Zabs,↓Zabr,↓Zabt,↓Zaag,↓Zaah,↓Zaaf,↓Zabk,↓Zabj,↓Zabl,↓Zabq,↓Zacz,↓Zada,↓Zadc,↓Zabg,↓Zabe,↓dstAt,↓Zabh,Zacx,Zaae,Zabi,Zaad,Zaac,Zacq,Zacp,Zacu,Zact,Zabm,↓reduceIte,Nat.reduceEqDiff,Nat.reduceLT,dec_T,dec_F, *,lenG]
    by_cases w4:n ≤ fr
    · clear key
      repeat' simp only [↓Zaca,↓Zabx,↓Zabz,↓Zaai,↓Zabu,↓Zabw,↓Zaby,↓Zacw,↓Zacv,↓Zadb,↓Zaaz,↓Zaau,↓Zaam,↓Zaav,↓Zaal,↓Zaat,↓Zaaw,↓Zaan,↓Zaaq,↓Zaar,↓Zaas,↓Zacy,↓bxPut,↓Zabs,↓Zabr,↓Zabt,↓Zaag,↓Zaah,↓Zaaf,↓Zabk,↓Zabj,↓Zabl,↓Zabq,↓Zacz,↓Zada,↓Zadc,↓Zabg,↓Zabe,↓dstAt,↓Zabh,Zacx,Zaae,Zabi,Zaad,Zaac,Zacq,Zacp,Zacu,Zact,Zabm,↓reduceIte,Nat.reduceEqDiff,Nat.reduceLT,dec_T,dec_F, *,lenG]
    by_cases w5:to < 0
    · clear key
      repeat' simp only [↓Zaca,↓Zabx,↓Zabz,↓Zaai,↓Zabu,↓Zabw,↓Zaby,↓Zacw,↓Zacv,↓Zadb,↓Zaaz,↓Zaau,↓Zaam,↓Zaav,↓Zaal,↓Zaat,↓Zaaw,↓Zaan,↓Zaaq,↓Zaar,↓Zaas,↓Zacy,↓bxPut,↓Zabs,↓Zabr,↓Zabt,↓Zaag,↓Zaah,↓Zaaf,↓Zabk,↓Zabj,↓Zabl,↓Zabq,↓Zacz,↓Zada,↓Zadc,↓Zabg,↓Zabe,↓dstAt,↓Zabh,Zacx,Zaae,Zabi,Zaad,Zaac,Zacq,Zacp,Zacu,Zact,Zabm,↓reduceIte,Nat.reduceEqDiff,Nat.reduceLT,dec_T,dec_F, *,lenG]
    by_cases w6:n ≤ to
    · clear key
      repeat' simp only [↓Zaca,↓Zabx,↓Zabz,↓Zaai,↓Zabu,↓Zabw,↓Zaby,↓Zacw,↓Zacv,↓Zadb,↓Zaaz,↓Zaau,↓Zaam,↓Zaav,↓Zaal,↓Zaat,↓Zaaw,↓Zaan,↓Zaaq,↓Zaar,↓Zaas,↓Zacy,↓bxPut,↓Zabs,↓Zabr,↓Zabt,↓Zaag,↓Zaah,↓Zaaf,↓Zabk,↓Zabj,↓Zabl,↓Zabq,↓Zacz,↓Zada,↓Zadc,↓Zabg,↓Zabe,↓dstAt,↓Zabh,Zacx,Zaae,Zabi,Zaac,Zacp,Zacu,Zact,Zabm,↓reduceIte,Nat.reduceEqDiff,Nat.reduceLT,dec_T,dec_F, *,lenG]
    exact (key ⟨w1,w2,w3,w4,w5,w6⟩).elim
  rw [if_neg hb] at he;have w1:¬ ch < 0:=by omega
  have w2:¬ 100 < ch:=by omega
  have w3:¬ fr < 0:=by omega
  have w4:¬ n ≤ fr:=by omega
  have w5:¬ to < 0:=by omega
  have w6:¬ n ≤ to:=by omega
  clear hb hall
  repeat' simp only [↓Zaca,↓Zabx,↓Zabz,↓Zaai,↓Zabu,↓Zabw,↓Zaby,↓Zacw,↓Zacv,↓Zadb,↓Zaaz,↓Zaau,↓Zaam,↓Zaav,↓Zaal,↓Zaat,↓Zaaw,↓Zaan,↓Zaaq,↓Zaar,↓Zaas,↓Zacy,↓bxPut,↓Zabs,↓Zabr,↓Zabt,↓Zaag,↓Zaah,↓Zaaf,↓Zabk,↓Zabj,↓Zabl,↓Zabq,↓Zacz,↓Zada,↓Zadc,↓Zabg,↓Zabe,↓dstAt,↓Zabh,Zacx,Zaae,Zabi,Zaac,Zacp,Zact,Zabm,↓reduceIte,Nat.reduceEqDiff,Nat.reduceLT,dec_F, *,lenG]
  refine sxL_of (fun m ρ H2 => ∃ k:Nat,m = ts.length - k ∧ k ≤ ts.length ∧ H2 = H1 ∧ (∀ j,j < k → 0 ≤ ts.getD j 0 ∧ ts.getD j 0 ≤ 10000) ∧
      ρ 5 = .slice a2 ts.length c2 ∧ ρ 15 = .int .i64 (k:Int))
    ⟨0,rfl,Nat.zero_le _,rfl,fun j hj => absurd hj (Nat.not_lt_zero j),e5,rfl⟩ ?_
  clear e0 e1 e2 e3 e4 e5 e13 hlt hlt' hno hk;rintro m ρ H2 ⟨k,rfl,hk,rfl,hall,e5,e15⟩
  by_cases hlt:k < ts.length
  · have hlt':(k:Int) < (ts.length:Int):=by omega
    have hw:=wrap_succ hlt hml2;have hob:=SlI_at (ht.keep hK1) hlt;obtain ⟨hix,hrd⟩:=hob;have hall':(¬ ts.getD k 0 < 0 ∧ ¬ 10000 < ts.getD k 0) → ∀ j,j < k + 1 → 0 ≤ ts.getD j 0 ∧ ts.getD j 0 ≤ 10000:=fun hok j hj => by
      rcases Nat.lt_or_ge j k with h | h
      · exact hall j h
      · rw [show j = k by omega]; omega
    have hbad:¬ (¬ ts.getD k 0 < 0 ∧ ¬ 10000 < ts.getD k 0) → PostC H er (.int .i64 2) H2:=fun hok => by
      rw [if_pos (fun h => hok (by have:=h _ (getD_mem (d:=0) hlt); omega))] at he
      rw [he]; exact ⟨rfl,hK1⟩
    have hzg:∃ z,z = ts.getD k 0:=⟨_,rfl⟩;obtain ⟨z,hz⟩:=hzg;rw [← hz] at hrd hall' hbad;clear hall he hl ht hz
    by_cases z1:z < 0
    · have hpost:=hbad (fun h => h.1 z1)
      clear hbad hall'
      repeat' simp only [↓Zaca,↓Zabx,↓Zabz,↓Zaai,↓Zabu,↓Zabw,↓Zaby,↓Zacw,↓Zacv,↓Zadb,↓Zaaz,↓Zaau,↓Zaam,↓Zaav,↓Zaat,↓Zaan,↓Zaar,↓Zaas,↓bxPut,↓Zabs,↓Zabr,↓Zabt,↓Zaag,↓Zaah,↓Zaaf,↓Zabk,↓Zabj,↓Zabl,↓Zabq,↓Zacz,↓Zada,↓Zadc,↓Zabg,↓Zabe,↓dstAt,↓Zabh,Zacx,Zaae,Zabi,Zaad,Zacq,Zacu,Zabm,↓reduceIte,Nat.reduceEqDiff,Nat.reduceLT,dec_T,one1,Option.bind_some, *,lenIs,ldC,one1]
    by_cases z2:10000 < z
    · have hpost:=hbad (fun h => h.2 z2)
      clear hbad hall'
      repeat' simp only [↓Zaca,↓Zabx,↓Zabz,↓Zaai,↓Zabu,↓Zabw,↓Zaby,↓Zacw,↓Zacv,↓Zadb,↓Zaaz,↓Zaau,↓Zaam,↓Zaav,↓Zaat,↓Zaan,↓Zaar,↓Zaas,↓bxPut,↓Zabs,↓Zabr,↓Zabt,↓Zaag,↓Zaah,↓Zaaf,↓Zabk,↓Zabj,↓Zabl,↓Zabq,↓Zacz,↓Zada,↓Zadc,↓Zabg,↓Zabe,↓dstAt,↓Zabh,Zacx,Zaae,Zabi,Zaac,Zacp,Zacu,Zabm,↓reduceIte,Nat.reduceEqDiff,Nat.reduceLT,dec_T,dec_F,one1,Option.bind_some, *,lenIs,ldC,one1]
    have hall'':=hall' ⟨z1,z2⟩;clear hbad hall'
    repeat' simp only [↓Zaca,↓Zabx,↓Zabz,↓Zaai,↓Zabu,↓Zabw,↓Zaby,↓Zacw,↓Zacv,↓Zadb,↓Zaaz,↓Zaau,↓Zaam,↓Zaav,↓Zaat,↓Zaan,↓Zaar,↓Zaas,↓bxPut,↓Zabs,↓Zabr,↓Zabt,↓Zaag,↓Zaah,↓Zaaf,↓Zabk,↓Zabj,↓Zabl,↓Zabq,↓Zacz,↓Zada,↓Zadc,↓Zabg,↓Zabe,↓dstAt,↓Zabh,Zacx,Zaae,Zabi,Zaac,Zacp,Zacu,Zact,Zabm,↓reduceIte,Nat.reduceEqDiff,Nat.reduceLT,dec_T,dec_F,true_and,one1,Option.bind_some, *,lenIs,ldC,one1]
    exact ⟨ts.length - (k + 1),by omega,k + 1,rfl,by omega,hall'',rfl⟩
  have hlt':¬ (k:Int) < (ts.length:Int):=by omega
  have hke:k = ts.length:=by omega
  subst hke;have hno:¬ (((ts.length:Nat):Int) < ((ts.length:Nat):Int)):=by omega
  rw [if_neg (fun h => h (all_of hall))] at he
  have hpost:PostC H er (.int .i64 0) H2:=by rw [he]; exact ⟨rfl,hK1⟩
  clear he hall hl ht
  repeat' simp only [↓Zaca,↓Zabx,↓Zabz,↓Zaai,↓Zabu,↓Zabw,↓Zaby,↓Zacw,↓Zacv,↓Zadb,↓Zaaz,↓Zaau,↓Zaam,↓Zaav,↓Zaat,↓Zaan,↓Zaar,↓Zaas,↓bxPut,↓Zabs,↓Zabr,↓Zabt,↓Zaag,↓Zaah,↓Zaaf,↓Zabk,↓Zabj,↓Zabl,↓Zabq,↓Zacz,↓Zada,↓Zadc,↓Zabg,↓Zabe,↓dstAt,↓Zabh,Zacx,Zaae,Zabi,Zact,Zabm,↓reduceIte,Nat.reduceEqDiff,Nat.reduceLT,dec_F, *,lenIs]
end Go.Proofs.Yteechkbnccpicaa
