/- Walks, by the program and by the reference; offers, by the reference. -/
import Derived.Test.YtcmaipijkjillaaDoorK6
set_option linter.unusedVariables false
set_option linter.unusedSimpArgs false
set_option linter.unusedSectionVars false

namespace Go.Proofs.YtcmaipijkjillaaDoor
open Go Go.AM
set_option maxRecDepth 10000

def WkS (l:List Off) (w:List Int) (m:Nat):Prop:=(∀ k,k < m → 0 ≤ w.getD k 0 ∧ w.getD k 0 < (l.length:Int)) ∧ ∀ k,k + 1 < m → (offW l w k).t = (offW l w (k + 1)).f
theorem WkS.zero {l:List Off} {w:List Int}:WkS l w 0:=⟨fun k h => absurd h (Nat.not_lt_zero k),fun k h => absurd h (Nat.not_lt_zero _)⟩
theorem WkS.succ {l:List Off} {w:List Int} {m:Nat} (h:WkS l w m) (h1:0 ≤ w.getD m 0 ∧ w.getD m 0 < (l.length:Int)) (h2:0 < m → (offW l w (m - 1)).t = (offW l w m).f):WkS l w (m + 1):=by
  refine ⟨fun k hk => ?_,fun k hk => ?_⟩
  · rcases Nat.lt_or_ge k m with h3 | h3
    · exact h.1 k h3
    · rw [show k = m by omega]; exact h1
  · rcases Nat.lt_or_ge (k + 1) m with h3 | h3
    · exact h.2 k h3
    · have:=h2 (by omega)
      rwa [show m - 1 = k by omega,show m = k + 1 by omega] at this
theorem SlI_ix' {H:Heap} {w:List Int} {r o:Nat} {a:Option Addr} {cap:Nat} (h:SlI .i64 H (.slice a w.length cap) w r o) {k:Nat} (h1:k < w.length):aIndexAt Tryd.prog 23 (.slice a w.length cap) (.int .i64 (k:Int)) = some (.pointer (some ⟨r,o + k,none⟩)):=SlI_ix h h1
theorem wk_at {H:Heap} {l:List Off} {w:List Int} {a:Option Addr} {cap r o:Nat} (hl:SlO H (.slice a l.length cap) l r o) {k:Nat} (h:0 ≤ w.getD k 0 ∧ w.getD k 0 < (l.length:Int)) :
    aIndexAt Tryd.prog 22 (.slice a l.length cap) (.int .i64 (w.getD k 0)) = some (.pointer (some ⟨r,o + (w.getD k 0).toNat * 4,none⟩)) ∧ H.read r (o + (w.getD k 0).toNat * 4) 4 = some (offW l w k).cells ∧ H.read r (o + (w.getD k 0).toNat * 4) 1 = some [.int .i64 (offW l w k).f] ∧ H.read r (o + (w.getD k 0).toNat * 4 + 1) 1 = some [.int .i64 (offW l w k).t]:=by
  have hi:(w.getD k 0).toNat < l.length:=by omega
  obtain ⟨q1,q2,q3,-⟩:=off_at hl hi;exact ⟨SlO_ix hl h.1 h.2,q1,q2,q3⟩

variable {S:AM.Sys} (hS:Only S 6)
include hS

set_option maxHeartbeats 4000000 in
theorem isWalk_runs (l:List Off) (w:List Int) (vl vw:Value) (r o r' o':Nat) (H:Heap) (hlow:H.low ≤ H.size) (hl:SlO H vl l r o) (hw:SlI .i64 H vw w r' o') :
    ∃ bb,Runs Tryd.prog S (.fn 21) [vl,vw] H (.bool bb) H ∧ (bb = true ↔ WkOk l w):=by
  suffices h:WCall Tryd.prog S (.fn 21) [vl,vw] H (fun v H' => ∃ bb,v = .bool bb ∧ (bb = true ↔ WkOk l w) ∧ H' = H) by
    obtain ⟨_,_,hr,bb,rfl,h1,rfl⟩:=h; exact ⟨bb,hr,h1⟩
  obtain ⟨a,cap,rfl⟩:=hl.v0;obtain ⟨a',cap',rfl⟩:=hw.v0;have no:¬ WkOk l w → ∃ bb,Value.bool false = .bool bb ∧ (bb = true ↔ WkOk l w):=fun h => ⟨false,rfl,⟨fun h => (by cases h),fun h' => absurd h' h⟩⟩
  refine call_of Tryd.func21 rfl (Nat.le_of_ble_eq_true rfl) (hS.no rfl _ _) ?_
  rw [Tryd.ntmps21,Tryd.results21]
  repeat' simp only [↓Zabo,↓Zabq,↓bxC_loop,↓Zabl,↓Zabp,↓Zacj,↓Zaci,↓Zaco,↓Zaar,↓Zaak,↓Zaap,↓bxPut,↓Zabj,↓Zabh,↓Zacm,↓Zacn,↓Zacp,↓Zaaz,↓Zaax,Zack,Zabe,↓reduceIte,Nat.reduceEqDiff,Nat.reduceLT, *,argF,List.getD_cons_zero,List.getD_cons_succ,lenI]
  refine sxL_of (fun m ρ X => ∃ k:Nat,m = w.length - k ∧ k ≤ w.length ∧ X = H ∧ WkS l w k ∧ ρ 0 = .slice a l.length cap ∧ ρ 1 = .slice a' w.length cap' ∧ ρ 7 = .slice a' w.length cap' ∧ ρ 8 = .int .i64 (w.length:Int) ∧ ρ 9 = .int .i64 (k:Int))
    ⟨0,rfl,Nat.zero_le _,rfl,.zero,rfl,rfl,rfl,rfl,rfl⟩ ?_
  rintro m ρ X ⟨k,rfl,hk,rfl,hwk,e0,e1,e7,e8,e9⟩;have hml:=hw.ml
  by_cases hkw:k < w.length
  case neg =>
    have hlt:¬ (k:Int) < (w.length:Int):=by omega
    have hke:k = w.length:=by omega
    rw [hke] at hwk;have hpo:∃ bb,Value.bool true = .bool bb ∧ (bb = true ↔ WkOk l w):=⟨true,rfl,fun _ => hwk,fun _ => rfl⟩
    clear hl hw hwk hke hkw hk no
    repeat' (first | simp only [↓Zabr,↓Zabm,↓Zabo,↓Zabq,↓Zaah,↓Zabl,↓Zabn,↓Zabp,↓Zacj,↓Zaci,↓Zacc,↓Zaai,↓Zaca,↓sxDL_pick,↓Zabz,↓Zabv,↓Zabx,↓Zaby,↓Zaco,↓Zaav,↓Zaar,↓Zaak,↓Zaas,↓Zaaq,↓Zaal,↓Zaan,↓Zaao,↓Zaap,↓bxPut,↓Zabj,↓Zabi,↓Zabk,↓Zaaf,↓Zaag,↓Zaae,↓Zabd,↓Zabc,↓loopQ_ret,↓Zabh,↓Zacm,↓Zacn,↓Zacp,↓Zaaz,↓Zaax,↓dstAt,↓Zaba,Zack,Zaad,Zabb,Zacg,Zabe,↓reduceIte,Nat.reduceLT,dec_F,and_true, *] | (with_reducible first | refine Zabu (by assumption) (by decide +kernel) ?_ | refine Zabt (by decide +kernel) ?_ | refine Zacb (by decide +kernel) ?_ | refine Zabw ?_))
  have hlt:(k:Int) < (w.length:Int):=by omega
  have hwi:=wrap_succ hkw hml;have ixk:=SlI_ix' hw hkw;have rdk:=(hw.rdI hkw).1
  by_cases h1:w.getD k 0 < 0
  · have hpo:=no (fun h => by have:=(h.1 k hkw).1; omega)
    clear hl hw hwk no hml
    repeat' (first | simp only [↓Zabr,↓Zabm,↓Zabo,↓Zabq,↓Zaah,↓Zabl,↓Zabn,↓Zabp,↓Zacj,↓Zaci,↓Zacc,↓Zaai,↓Zaca,↓sxDL_pick,↓Zabz,↓Zabv,↓Zabx,↓Zaby,↓Zaco,↓Zaav,↓Zaar,↓Zaak,↓Zaas,↓Zaaq,↓Zaal,↓Zaan,↓Zaao,↓Zaap,↓bxPut,↓Zabj,↓Zabi,↓Zabk,↓Zaaf,↓Zaag,↓Zaae,↓Zabd,↓Zabc,↓loopQ_ret,↓Zabh,↓Zacm,↓Zacn,↓Zacp,↓Zaaz,↓Zaax,↓dstAt,↓Zaba,Zack,Zaad,Zabb,Zaac,sxGuardB_ft,Zach,Zabe,↓reduceIte,Nat.reduceEqDiff,Nat.reduceLT,dec_T,and_true,one1,Option.bind_some, *,ldI] | (with_reducible first | refine Zabu (by assumption) (by decide +kernel) ?_ | refine Zabt (by decide +kernel) ?_ | refine Zacb (by decide +kernel) ?_ | refine Zabw ?_))
  by_cases h2:(l.length:Int) ≤ w.getD k 0
  · have hpo:=no (fun h => by have:=(h.1 k hkw).2; omega)
    clear hl hw hwk no hml
    repeat' (first | simp only [↓Zabr,↓Zabm,↓Zabo,↓Zabq,↓Zaah,↓Zabl,↓Zabn,↓Zabp,↓Zacj,↓Zaci,↓Zacc,↓Zaai,↓Zaca,↓sxDL_pick,↓Zabz,↓Zabv,↓Zabx,↓Zaby,↓Zaco,↓Zaav,↓Zaar,↓Zaak,↓Zaas,↓Zaaq,↓Zaal,↓Zaan,↓Zaao,↓Zaap,↓bxPut,↓Zabj,↓Zabi,↓Zabk,↓Zaaf,↓Zaag,↓Zaae,↓Zabd,↓Zabc,↓loopQ_ret,↓Zabh,↓Zacm,↓Zacn,↓Zacp,↓Zaaz,↓Zaax,↓dstAt,↓Zaba,Zack,Zaad,Zabb,Zaab,Zacd,Zach,Zabe,↓reduceIte,Nat.reduceEqDiff,Nat.reduceLT,dec_T,dec_F,and_true,one1,Option.bind_some, *,lenO,ldI] | (with_reducible first | refine Zabu (by assumption) (by decide +kernel) ?_ | refine Zabt (by decide +kernel) ?_ | refine Zacb (by decide +kernel) ?_ | refine Zabw ?_))
  have hb:0 ≤ w.getD k 0 ∧ w.getD k 0 < (l.length:Int):=by omega
  obtain ⟨j1,j2,j3,j4⟩:=wk_at hl hb
  by_cases hk0:k = 0
  · have hnz:¬ (0:Int) < (k:Int):=by omega
    have hwk2:=hwk.succ hb (fun h => absurd h (by omega))
    clear hl hw hwk no hml j2 j4 hb hk0
    repeat' (first | simp only [↓Zabr,↓Zabm,↓Zabo,↓Zabq,↓Zaah,↓Zabl,↓Zabn,↓Zabp,↓Zacj,↓Zaci,↓Zacc,↓Zaai,↓Zaca,↓sxDL_pick,↓Zabz,↓Zabv,↓Zabx,↓Zaby,↓sxD_same,↓Zaco,↓Zaav,↓Zaar,↓Zaak,↓Zaas,↓Zaaq,↓Zaal,↓Zaan,↓Zaao,↓Zaap,↓bxPut,↓Zabj,↓Zabi,↓Zabk,↓Zaaf,↓Zaag,↓Zaae,↓Zabd,↓Zabc,↓loopQ_ret,↓Zabh,↓Zacm,↓Zacn,↓Zacp,↓Zaaz,↓Zaax,↓dstAt,↓Zaba,Zack,Zaad,Zabb,Zaab,sxGuardB_tf,Zacd,Zach,Zacg,Zabe,↓reduceIte,Nat.reduceEqDiff,Nat.reduceLT,dec_T,dec_F,true_and,one1,Option.bind_some, *,lenO,ldI] | (with_reducible first | refine Zabu (by assumption) (by decide +kernel) ?_ | refine Zabt (by decide +kernel) ?_ | refine Zacb (by decide +kernel) ?_ | refine Zabw ?_))
    exact ⟨w.length - (k + 1),by omega,k + 1,rfl,by omega,hwk2,rfl⟩
  have hpz:(0:Int) < (k:Int):=by omega
  obtain ⟨p,hp⟩:∃ p,k = p + 1:=⟨k - 1,by omega⟩
  have hbp:=hwk.1 p (by omega)
  obtain ⟨g1,g2,g3,g4⟩:=wk_at hl hbp;have hwp:IntKind.i64.wrap ((k:Int) - 1) = (p:Int):=by
    have:Go.maxLen = 9223372036854775807:=rfl;rw [IntWalk.i64_in _ (by omega)]; omega
  have ixp:=SlI_ix' hw (show p < w.length by omega)
  have rdp:=(hw.rdI (show p < w.length by omega)).1
  by_cases hc:(offW l w p).t = (offW l w k).f
  · have hwk2:=hwk.succ hb (fun _ => by rw [show k - 1 = p by omega]; exact hc)
    clear hl hw hwk no hml j2 j4 g2 g3 hb hbp hp;generalize (offW l w p).t = u1 at *;generalize (offW l w k).f = u2 at *;subst hc
    repeat' (first | simp only [↓Zabr,↓Zabm,↓Zabo,↓Zabq,↓Zaah,↓Zabl,↓Zabn,↓Zabp,↓Zacj,↓Zaci,↓Zacc,↓Zaai,↓Zaca,↓sxDL_pick,↓Zabz,↓Zabv,↓Zabx,↓Zaby,↓sxD_same,↓Zaco,↓Zaav,↓Zaar,↓Zaak,↓Zaas,↓Zaaq,↓Zaal,↓Zaan,↓Zaao,↓Zaap,↓bxPut,↓Zabj,↓Zabi,↓Zabk,↓Zaaf,↓Zaag,↓Zaae,↓Zabd,↓Zabc,↓loopQ_ret,↓Zabh,↓Zacm,↓Zacn,↓Zacp,↓Zaaz,↓Zaax,↓dstAt,↓Zaba,Zack,Zaad,Zabb,Zaac,Zaab,sxGuardB_tt,Zacd,Zach,Zacg,Zabe,↓reduceIte,Nat.reduceEqDiff,Nat.reduceLT,dec_T,dec_F,true_and,Zaaa,Nat.add_zero,one1,Option.bind_some,not_true_eq_false, *,lenO,ldI,faO0,faO1,Nat.add_zero] | (with_reducible first | refine Zabu (by assumption) (by decide +kernel) ?_ | refine Zabt (by decide +kernel) ?_ | refine Zacb (by decide +kernel) ?_ | refine Zabw ?_))
    exact ⟨w.length - (k + 1),by omega,k + 1,rfl,by omega,hwk2,rfl⟩
  · have hpo:=no (fun h => hc (by have:=h.2 p (by omega); rwa [← hp] at this))
    clear hl hw hwk no hml j2 j4 g2 g3 hb hbp hp;generalize (offW l w p).t = u1 at *;generalize (offW l w k).f = u2 at *
    repeat' (first | simp only [↓Zabr,↓Zabm,↓Zabo,↓Zabq,↓Zaah,↓Zabl,↓Zabn,↓Zabp,↓Zacj,↓Zaci,↓Zacc,↓Zaai,↓Zaca,↓sxDL_pick,↓Zabz,↓Zabv,↓Zabx,↓Zaby,↓sxD_same,↓Zaco,↓Zaav,↓Zaar,↓Zaak,↓Zaas,↓Zaaq,↓Zaal,↓Zaan,↓Zaao,↓Zaap,↓bxPut,↓Zabj,↓Zabi,↓Zabk,↓Zaaf,↓Zaag,↓Zaae,↓Zabd,↓Zabc,↓loopQ_ret,↓Zabh,↓Zacm,↓Zacn,↓Zacp,↓Zaaz,↓Zaax,↓dstAt,↓Zaba,Zack,Zaad,Zabb,Zaac,Zaab,sxGuardB_tt,Zacd,Zach,Zacg,Zabe,↓reduceIte,Nat.reduceEqDiff,Nat.reduceLT,dec_T,dec_F,and_true,Zaaa,Nat.add_zero,one1,Option.bind_some,not_false_eq_true, *,lenO,ldI,faO0,faO1,Nat.add_zero] | (with_reducible first | refine Zabu (by assumption) (by decide +kernel) ?_ | refine Zabt (by decide +kernel) ?_ | refine Zacb (by decide +kernel) ?_ | refine Zabw ?_))
end Go.Proofs.YtcmaipijkjillaaDoor
