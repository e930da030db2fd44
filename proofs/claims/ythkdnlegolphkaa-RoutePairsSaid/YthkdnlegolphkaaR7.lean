/- A timetable's isJourney. -/
import Derived.Test.YthkdnlegolphkaaR6
set_option linter.unusedVariables false
set_option linter.unusedSimpArgs false
set_option linter.unusedSectionVars false

namespace Go.Proofs.Ythkdnlegolphkaa
open Go Go.AM
set_option maxRecDepth 10000

def OkAt (ls:List Lg) (ch:Int) (js:List Int) (k:Nat):Prop:=
  (0 ≤ js.getD k 0 ∧ js.getD k 0 ≤ (ls.length:Int) - 1) ∧ (0 < k → joinB ch (ls.getD (js.getD (k - 1) 0).toNat default) (ls.getD (js.getD k 0).toNat default) = true)
def AllOk (ls:List Lg) (ch:Int) (js:List Int) (n:Nat):Prop:=∀ k,k < n → OkAt ls ch js k
def IsJ (ls:List Lg) (ch fr to at' by':Int) (js:List Int) (b:Bool):Prop:=
  (js.length = 0 → b = decide (fr = to ∧ at' ≤ by')) ∧
  (js.length ≠ 0 → (b = true ↔ AllOk ls ch js js.length ∧ ((ls.getD (js.getD 0 0).toNat default).f = fr ∧ at' ≤ (ls.getD (js.getD 0 0).toNat default).d) ∧
    ((ls.getD (js.getD (js.length - 1) 0).toNat default).t = to ∧ (ls.getD (js.getD (js.length - 1) 0).toNat default).a ≤ by')))
def PostJ (H:Heap) (ls:List Lg) (ch fr to at' by':Int) (js:List Int) (u:Value) (H':Heap):Prop:=∃ b,u = .bool b ∧ IsJ ls ch fr to at' by' js b ∧ Keep H H'
theorem PostJ.no {H H':Heap} {ls:List Lg} {ch fr to at' by':Int} {js:List Int} {k:Nat} (hk:k < js.length) (h:¬ OkAt ls ch js k) (hK:Keep H H'):PostJ H ls ch fr to at' by' js (.bool false) H':=
  ⟨false,rfl,⟨fun h0 => absurd h0 (by omega),fun _ => ⟨fun hh => (by cases hh),fun hh => absurd (hh.1 k hk) h⟩⟩,hK⟩
theorem AllOk.succ {ls:List Lg} {ch:Int} {js:List Int} {k:Nat} (h:AllOk ls ch js k) (h1:OkAt ls ch js k):AllOk ls ch js (k + 1):=fun j hj => by
  rcases Nat.lt_or_ge j k with h2 | h2
  · exact h j h2
  · rw [show j = k by omega]; exact h1

variable {S:AM.Sys} (hS:Only S 10)
include hS

set_option maxHeartbeats 4000000 in
theorem isJ_runs (ls:List Lg) (a:Option Addr) (c r o:Nat) (ch:Int) (v:Value) (fr to at' by':Int) (js:List Int) (a2:Option Addr) (c2 r2 o2:Nat) (H:Heap) (hL:H.low ≤ H.size) (hl:SlG H (.slice a ls.length c) ls r o) (hj:SlI .i64 H (.slice a2 js.length c2) js r2 o2)
    (hml:ls.length ≤ 60) (hmj:js.length ≤ 100000) (hfit:∀ i,i < ls.length → Fit ch (ls.getD i default)) :
    ∃ u H',Runs Try.prog S (.fn 27) [tv a ls.length c ch v,wv fr to at' by',.slice a2 js.length c2] H u H' ∧ PostJ H ls ch fr to at' by' js u H':=by
  suffices h:WCall Try.prog S (.fn 27) [tv a ls.length c ch v,wv fr to at' by',.slice a2 js.length c2] H (fun u H' => PostJ H ls ch fr to at' by' js u H') by
    obtain ⟨u,H',hr,h⟩:=h; exact ⟨u,H',hr,h⟩
  obtain ⟨H1,e1,hK1,t3,t0,t1,t2⟩:=boxT H a ls.length c ch v;obtain ⟨H2,e2,hK2,w4,w0,w1,w2,w3⟩:=boxW H1 fr to at' by'
  have hK:=hK1.trans hK2;have z1:H.size < H1.size:=by rw [← e1,size_new]; omega
  have z2:H1.size < H2.size:=by rw [← e2,size_new]; omega
  have t3:=hK2.read z1 t3;have t0:=hK2.read z1 t0;have z1:H.size < H2.size:=by omega
  refine Zaba Try.func27 rfl (Nat.le_of_ble_eq_true rfl) (hS.no rfl _ _) ?_
  rw [Try.ntmps27,Try.results27]
  by_cases h0:js.length = 0
  · have hpost:∀ b,b = decide (fr = to ∧ at' ≤ by') → PostJ H ls ch fr to at' by' js (.bool b) H2:=fun b hb => ⟨b,rfl,⟨fun _ => hb,fun h => absurd h0 h⟩,hK⟩
    have h0':((js.length:Nat):Int) = 0:=by omega
    by_cases c1:fr = to
    · by_cases c2:at' ≤ by'
      · have hp:=hpost true (decide_eq_true ⟨c1,c2⟩).symm;have d1:decide (fr = to) = true:=decide_eq_true c1;clear hpost c1 hl hj h0 hfit z1 z2 hK hK1 hK2 t1 t2 w4
        repeat' (first | simp only [↓Zaca,↓Zabv,↓Zabx,↓Zabz,↓Zaai,↓Zaaj,↓Zabu,↓Zaby,↓Zacv,↓Zacu,↓Zaco,↓Zaak,↓Zacj,↓sxDL_assign,↓Zack,↓Zaci,↓Zace,↓Zacg,↓Zach,↓Zada,↓Zaaz,↓Zaau,↓Zaam,↓Zaav,↓bxOp_box,↓Zaat,↓Zaan,↓Zaaq,↓Zaar,↓Zaay,↓Zaas,↓bxPut,↓Zabs,↓Zabt,↓Zabq,↓Zacy,↓Zacz,↓Zadb,↓Zabg,↓Zabe,↓Zabf,↓dstAt,↓Zabh,Zacw,Zaae,Zabi,Zaad,Zacb,Zacr,Zact,Zabm,List.nil_append,↓reduceIte,Nat.reduceEqDiff,Nat.reduceLT,dec_T,Nat.add_zero,one1,Option.bind_some, *,argF,List.getD_cons_zero,List.getD_cons_succ,Zabb,wv,tv,lenIs,faW0,faW1,faW2,faW3,ldC,one1] | (with_reducible first | refine Zacd (by assumption) (by decide +kernel) ?_ | refine Zacc (by decide +kernel) ?_ | refine Zacm (by decide +kernel) ?_ | refine Zacf ?_))
      · have hp:=hpost false (decide_eq_false fun h => c2 h.2).symm
        have d1:decide (fr = to) = true:=decide_eq_true c1;clear hpost c1 hl hj h0 hfit z1 z2 hK hK1 hK2 t1 t2 w4
        repeat' (first | simp only [↓Zaca,↓Zabv,↓Zabx,↓Zabz,↓Zaai,↓Zaaj,↓Zabu,↓Zaby,↓Zacv,↓Zacu,↓Zaco,↓Zaak,↓Zacj,↓sxDL_assign,↓Zack,↓Zaci,↓Zace,↓Zacg,↓Zach,↓Zada,↓Zaaz,↓Zaau,↓Zaam,↓Zaav,↓bxOp_box,↓Zaat,↓Zaan,↓Zaaq,↓Zaar,↓Zaay,↓Zaas,↓bxPut,↓Zabs,↓Zabt,↓Zabq,↓Zacy,↓Zacz,↓Zadb,↓Zabg,↓Zabe,↓Zabf,↓dstAt,↓Zabh,Zacw,Zaae,Zabi,Zaad,Zacb,Zacr,Zact,Zabm,List.nil_append,↓reduceIte,Nat.reduceEqDiff,Nat.reduceLT,dec_T,dec_F,Nat.add_zero,one1,Option.bind_some, *,argF,List.getD_cons_zero,List.getD_cons_succ,Zabb,wv,tv,lenIs,faW0,faW1,faW2,faW3,ldC,one1] | (with_reducible first | refine Zacd (by assumption) (by decide +kernel) ?_ | refine Zacc (by decide +kernel) ?_ | refine Zacm (by decide +kernel) ?_ | refine Zacf ?_))
    · have hp:=hpost false (decide_eq_false fun h => c1 h.1).symm
      have d1:decide (fr = to) = false:=decide_eq_false c1;clear hpost c1 hl hj h0 hfit z1 z2 hK hK1 hK2 t1 t2 w4
      repeat' (first | simp only [↓Zaca,↓Zabv,↓Zabx,↓Zabz,↓Zaai,↓Zaaj,↓Zabu,↓Zaby,↓Zacv,↓Zacu,↓Zaco,↓Zaak,↓Zacj,↓sxDL_assign,↓Zack,↓Zaci,↓Zace,↓Zacg,↓Zach,↓Zada,↓Zaaz,↓Zaau,↓Zaam,↓Zaav,↓bxOp_box,↓Zaat,↓Zaan,↓Zaaq,↓Zaar,↓Zaay,↓Zaas,↓bxPut,↓Zabs,↓Zabt,↓Zabq,↓Zacy,↓Zacz,↓Zadb,↓Zabg,↓Zabe,↓Zabf,↓dstAt,↓Zabh,Zacw,Zaae,Zabi,Zaac,Zacb,Zacq,Zact,Zabm,List.nil_append,↓reduceIte,Nat.reduceEqDiff,Nat.reduceLT,dec_T,Nat.add_zero,one1,Option.bind_some, *,argF,List.getD_cons_zero,List.getD_cons_succ,Zabb,wv,tv,lenIs,faW0,faW1,ldC,one1] | (with_reducible first | refine Zacd (by assumption) (by decide +kernel) ?_ | refine Zacc (by decide +kernel) ?_ | refine Zacm (by decide +kernel) ?_ | refine Zacf ?_))
  have h0':¬ ((js.length:Nat):Int) = 0:=by omega
  repeat' (first | simp only [↓Zaca,↓Zabv,↓Zabx,↓Zabz,↓Zaai,↓Zaaj,↓Zabu,↓Zaby,↓Zacv,↓Zacu,↓Zaco,↓Zaak,↓Zacj,↓sxDL_assign,↓Zack,↓Zaci,↓Zace,↓Zacg,↓Zach,↓Zada,↓Zaaz,↓Zaau,↓Zaam,↓Zaav,↓bxOp_box,↓Zaat,↓Zaan,↓Zaaq,↓Zaar,↓Zaay,↓Zaas,↓bxPut,↓Zabs,↓Zabt,↓Zabq,↓Zacy,↓Zacz,↓Zadb,↓Zabg,↓Zabe,↓Zabf,↓dstAt,↓Zabh,Zacw,Zaae,Zabi,Zacb,Zacs,Zabm,List.nil_append,↓reduceIte,Nat.reduceEqDiff,Nat.reduceLT,dec_F, *,argF,List.getD_cons_zero,List.getD_cons_succ,Zabb,wv,tv,lenIs] | (with_reducible first | refine Zacd (by assumption) (by decide +kernel) ?_ | refine Zacc (by decide +kernel) ?_ | refine Zacm (by decide +kernel) ?_ | refine Zacf ?_))
  refine sxL_of (fun m ρ H5 => ∃ k:Nat,m = js.length - k ∧ k ≤ js.length ∧ Keep H2 H5 ∧ AllOk ls ch js k ∧
      ρ 2 = .slice a2 js.length c2 ∧ ρ 3 = .pointer (some ⟨H.size,0,none⟩) ∧ ρ 4 = .pointer (some ⟨H1.size,0,none⟩) ∧ ρ 24 = .slice a2 js.length c2 ∧ ρ 25 = .int .i64 (js.length:Int) ∧ ρ 26 = .int .i64 (k:Int))
    ⟨0,rfl,Nat.zero_le _,Keep.refl _,fun j hj => absurd hj (Nat.not_lt_zero j),rfl,rfl,rfl,rfl,rfl,rfl⟩ ?_
  rintro m ρ H5 ⟨k,rfl,hk,hK5,hall,e2',e3,e4,e24,e25,e26⟩;have hKK:=hK.trans hK5;have hL5:=hKK.low hL;have t3x:=t3;have t0x:=t0;clear t3 t0;have t3:=hK5.read z1 t3x;have t0:=hK5.read z1 t0x;have wn:IntKind.i64.wrap ((ls.length:Int) - 1) = (ls.length:Int) - 1:=IntWalk.i64_in _ (by omega)
  by_cases hlt:k < js.length
  · have hlt':(k:Int) < (js.length:Int):=by omega
    have hw:=wrap_succ hlt (Nat.le_trans hmj (by decide))
    have hob:=SlI_at (hj.keep hKK) hlt;obtain ⟨hix,hrd⟩:=hob;have f1:=(isWithin_runs hS (js.getD k 0) 0 ((ls.length:Int) - 1) (H5.relow H5.size)).bx
    by_cases c1:0 ≤ js.getD k 0 ∧ js.getD k 0 ≤ (ls.length:Int) - 1
    · rw [decide_eq_true c1] at f1
      by_cases c2:0 < k
      · have c2':(0:Int) < (k:Int):=by omega
        have hpv:=(hall (k - 1) (by omega)).1
        have hgi:=Int.eq_ofNat_of_zero_le hpv.1;obtain ⟨i,hi⟩:=hgi;have hgj:=Int.eq_ofNat_of_zero_le c1.1;obtain ⟨j,hj'⟩:=hgj;have hw1:IntKind.i64.wrap ((k:Int) - 1) = ((k - 1:Nat):Int):=by rw [IntWalk.i64_in _ (by omega)]; omega
        have hob1:=SlI_at (hj.keep hKK) (show k - 1 < js.length by omega)
        obtain ⟨hixp,hrdp⟩:=hob1;have hil:i < ls.length:=by omega
        have hjl:j < ls.length:=by omega
        have hfo:=drawn hL5 (follows_runs hS ls a c r o ch v (H5.relow H5.size) (Nat.le_refl _) (hl.keep (hKK.trans (Keep.relowS H5))) i j hil hjl (hfit i hil));obtain ⟨H6,H7,hK7,hL7,f2,fd⟩:=hfo;unfold tv at f2;have hKK7:=hKK.trans hK7;have hK57:=hK5.trans hK7;rw [hi] at hrdp;rw [hj'] at hrd f1
        by_cases c3:joinB ch (ls.getD i default) (ls.getD j default) = true
        · rw [c3] at f2;have hall':=hall.succ ⟨c1,fun _ => by rw [hi,hj',Int.toNat_natCast,Int.toNat_natCast]; exact c3⟩
          clear hall c1 c3 hl hj hfit hK hK1 hK2 hKK hKK7 z1 z2 hK7 hpv hi hj'
          repeat' (first | simp only [↓Zaca,↓Zabv,↓Zabx,↓Zabz,↓Zaai,↓Zabu,↓Zabw,↓Zaby,↓Zacv,↓Zacu,↓Zaco,↓Zaak,↓Zacj,↓Zack,↓Zaci,↓Zace,↓Zacl,↓Zacg,↓Zach,↓Zacn,↓Zada,↓Zaaz,↓Zaau,↓Zaam,↓Zaav,↓Zaat,↓Zaan,↓Zaax,↓Zaaq,↓Zaar,↓Zaay,↓Zaas,↓bxPut,↓Zabs,↓Zabr,↓Zabt,↓Zaag,↓Zaah,↓Zaaf,↓Zabk,↓Zabj,↓Zabl,↓Zabq,↓Zacy,↓Zacz,↓Zadb,↓Zabg,↓Zabe,↓Zabf,↓dstAt,↓Zabh,Zacw,Zaae,Zabi,una_nt,Zaad,Zaac,Zacb,Zacr,Zacp,Zact,Zacs,Zabm,List.map_cons,List.map_nil,List.nil_append,List.append_nil,↓reduceIte,Nat.reduceEqDiff,Nat.reduceLT,dec_T,true_and,Zaab,Nat.add_zero,one1,Option.bind_some,Option.map_some, *,lenG,faT0,ldLs,ldC,ldTt,one1] | (with_reducible first | refine Zacd (by assumption) (by decide +kernel) ?_ | refine Zacc (by decide +kernel) ?_ | refine Zacm (by decide +kernel) ?_ | refine Zacf ?_))
          exact ⟨js.length - (k + 1),by omega,k + 1,rfl,by omega,hall',rfl⟩
        · have hno:¬ OkAt ls ch js k:=fun h => by
            have h2:=h.2 c2;rw [hi,hj',Int.toNat_natCast,Int.toNat_natCast] at h2;exact c3 h2
          have c3':joinB ch (ls.getD i default) (ls.getD j default) = false:=by simpa using c3
          rw [c3'] at f2;have hp:=PostJ.no (fr:=fr) (to:=to) (at':=at') (by':=by') hlt hno hKK7
          clear hall hno c1 c3 hl hj hfit hK hK1 hK2 hKK hKK7 z1 z2 hK7 hpv hi hj'
          repeat' (first | simp only [↓Zaca,↓Zabv,↓Zabx,↓Zabz,↓Zaai,↓Zabu,↓Zabw,↓Zaby,↓Zacv,↓Zacu,↓Zaco,↓Zaak,↓Zacj,↓Zack,↓Zaci,↓Zace,↓Zacl,↓Zacg,↓Zach,↓Zacn,↓Zada,↓Zaaz,↓Zaau,↓Zaam,↓Zaav,↓Zaat,↓Zaan,↓Zaax,↓Zaaq,↓Zaar,↓Zaay,↓Zaas,↓bxPut,↓Zabs,↓Zabr,↓Zabt,↓Zaag,↓Zaah,↓Zaaf,↓Zabk,↓Zabj,↓Zabl,↓Zabq,↓Zacy,↓Zacz,↓Zadb,↓Zabg,↓Zabe,↓Zabf,↓dstAt,↓Zabh,Zacw,Zaae,Zabi,una_nt,una_nf,Zaad,Zaac,Zacb,Zacr,Zacp,Zact,Zabm,List.map_cons,List.map_nil,List.nil_append,List.append_nil,↓reduceIte,Nat.reduceEqDiff,Nat.reduceLT,dec_T,Zaab,Nat.add_zero,one1,Option.bind_some,Option.map_some, *,lenG,faT0,ldLs,ldC,ldTt,one1] | (with_reducible first | refine Zacd (by assumption) (by decide +kernel) ?_ | refine Zacc (by decide +kernel) ?_ | refine Zacm (by decide +kernel) ?_ | refine Zacf ?_))
      · have c2':¬ (0:Int) < (k:Int):=by omega
        have hall':=hall.succ ⟨c1,fun h => absurd h c2⟩
        clear hall c1 hl hj hfit hK hK1 hK2 hKK z1 z2
        repeat' (first | simp only [↓Zaca,↓Zabv,↓Zabx,↓Zabz,↓Zaai,↓Zabu,↓Zabw,↓Zaby,↓Zacv,↓Zacu,↓Zaco,↓Zaak,↓Zacj,↓Zack,↓Zaci,↓Zace,↓Zacl,↓Zacg,↓Zach,↓Zacn,↓Zada,↓Zaaz,↓Zaau,↓Zaam,↓Zaav,↓Zaat,↓Zaan,↓Zaax,↓Zaaq,↓Zaar,↓Zaay,↓Zaas,↓bxPut,↓Zabs,↓Zabr,↓Zabt,↓Zaag,↓Zaah,↓Zaaf,↓Zabk,↓Zabj,↓Zabl,↓Zabq,↓Zacy,↓Zacz,↓Zadb,↓Zabg,↓Zabe,↓Zabf,↓dstAt,↓Zabh,Zacw,Zaae,Zabi,una_nt,Zaac,Zacb,Zacq,Zacp,Zact,Zacs,Zabm,List.map_cons,List.map_nil,List.nil_append,List.append_nil,↓reduceIte,Nat.reduceEqDiff,Nat.reduceLT,dec_T,dec_F,true_and,Zaab,Nat.add_zero,one1,Option.bind_some, *,lenG,faT0,ldLs,ldC,one1] | (with_reducible first | refine Zacd (by assumption) (by decide +kernel) ?_ | refine Zacc (by decide +kernel) ?_ | refine Zacm (by decide +kernel) ?_ | refine Zacf ?_))
        exact ⟨js.length - (k + 1),by omega,k + 1,rfl,by omega,hall',rfl⟩
    · rw [decide_eq_false c1] at f1;have hno:¬ OkAt ls ch js k:=fun h => c1 h.1
      have hp:=PostJ.no (fr:=fr) (to:=to) (at':=at') (by':=by') hlt hno hKK
      clear hall hno c1 hl hj hfit hK hK1 hK2 hKK z1 z2
      repeat' (first | simp only [↓Zaca,↓Zabv,↓Zabx,↓Zabz,↓Zaai,↓Zabu,↓Zabw,↓Zaby,↓Zacv,↓Zacu,↓Zaco,↓Zaak,↓Zacj,↓Zack,↓Zaci,↓Zace,↓Zacl,↓Zacg,↓Zach,↓Zacn,↓Zada,↓Zaaz,↓Zaau,↓Zaam,↓Zaav,↓Zaat,↓Zaan,↓Zaax,↓Zaaq,↓Zaar,↓Zaay,↓Zaas,↓bxPut,↓Zabs,↓Zabr,↓Zabt,↓Zaag,↓Zaah,↓Zaaf,↓Zabk,↓Zabj,↓Zabl,↓Zabq,↓Zacy,↓Zacz,↓Zadb,↓Zabg,↓Zabe,↓Zabf,↓dstAt,↓Zabh,Zacw,Zaae,Zabi,una_nf,Zaad,Zacb,sxGuardB_u,sxGuardB_ft,Zact,Zabm,List.map_cons,List.map_nil,List.nil_append,List.append_nil,↓reduceIte,Nat.reduceEqDiff,Nat.reduceLT,dec_T,Zaab,Nat.add_zero,one1,Option.bind_some, *,lenG,faT0,ldLs,ldC,one1] | (with_reducible first | refine Zacd (by assumption) (by decide +kernel) ?_ | refine Zacc (by decide +kernel) ?_ | refine Zacm (by decide +kernel) ?_ | refine Zacf ?_))
  · have hke:k = js.length:=by omega
    subst hke;have hlt':¬ (((js.length:Nat):Int) < ((js.length:Nat):Int)):=by omega
    have hgi:=Int.eq_ofNat_of_zero_le (hall 0 (by omega)).1.1
    obtain ⟨i,hi⟩:=hgi;have hgj:=Int.eq_ofNat_of_zero_le (hall (js.length - 1) (by omega)).1.1
    obtain ⟨j,hj'⟩:=hgj;have hil:i < ls.length:=by have:=(hall 0 (by omega)).1; omega
    have hjl:j < ls.length:=by have:=(hall (js.length - 1) (by omega)).1; omega
    have hob0:=SlI_at (hj.keep hKK) (show 0 < js.length by omega)
    obtain ⟨hix0,hrd0⟩:=hob0;have hix0:Zaaa Try.prog 23 (.slice a2 js.length c2) (.int .i64 0) = some (.pointer (some ⟨r2,o2 + 0,none⟩)):=hix0;rw [Nat.add_zero] at hix0 hrd0;have hbe:=drawn hL5 (begins_runs hS fr to at' by' (ls.getD i default) (H5.relow H5.size))
    obtain ⟨H6,H8,hK8,hL8,f1,fd1⟩:=hbe;have hen:=drawn hL8 (ends_runs hS fr to at' by' (ls.getD j default) (H8.relow H8.size))
    obtain ⟨H7,H9,hK9,hL9,f2,fd2⟩:=hen;have hK26:=hK5.trans hK8;have hK06:=hK.trans hK26;have u0:=hK26.read z1 t0x;have w4b:=hK26.read z2 w4;have w4a:=hK5.read z2 w4;have hobA:=SlG_at (hl.keep hKK) hil;obtain ⟨q,hixA,hrdA,_⟩:=hobA;have hobB:=SlG_at (hl.keep hK06) hjl;obtain ⟨q',hixB,hrdB,_⟩:=hobB;have hob1:=SlI_at (hj.keep hK06) (show js.length - 1 < js.length by omega)
    obtain ⟨hix1,hrd1⟩:=hob1;have hw1:IntKind.i64.wrap ((js.length:Int) - 1) = ((js.length - 1:Nat):Int):=by rw [IntWalk.i64_in _ (by omega)]; omega
    have hpost:∀ b H8,(b = true ↔ ((ls.getD i default).f = fr ∧ at' ≤ (ls.getD i default).d) ∧ ((ls.getD j default).t = to ∧ (ls.getD j default).a ≤ by')) → Keep H5 H8 → PostJ H ls ch fr to at' by' js (.bool b) H8:=fun b H8 hb h8 => by
      refine ⟨b,rfl,⟨fun h => absurd h h0,fun _ => ?_⟩,hKK.trans h8⟩
      rw [hi,hj',Int.toNat_natCast,Int.toNat_natCast,hb];exact ⟨fun h => ⟨hall,h⟩,fun h => h.2⟩
    rw [hi] at hrd0;rw [hj'] at hrd1;unfold wv at f1 f2
    by_cases c1:(ls.getD i default).f = fr ∧ at' ≤ (ls.getD i default).d
    · rw [decide_eq_true c1] at f1
      by_cases c2:(ls.getD j default).t = to ∧ (ls.getD j default).a ≤ by'
      · rw [decide_eq_true c2] at f2;have hp:=hpost true H9 ⟨fun _ => ⟨c1,c2⟩,fun _ => rfl⟩ (hK8.trans hK9)
        clear hall hl hj hfit hK hK1 hK2 hKK hK5 hK8 hK9 hK26 hK06 hpost c1 c2 hi hj' z1 z2
        repeat' (first | simp only [↓Zaca,↓Zabv,↓Zabx,↓Zabz,↓Zaai,↓Zabu,↓Zabw,↓Zaby,↓Zacv,↓Zacu,↓Zaco,↓Zaak,↓Zacj,↓Zack,↓Zaci,↓Zace,↓Zacl,↓Zacg,↓Zach,↓Zacn,↓Zada,↓Zaaz,↓Zaau,↓Zaam,↓Zaav,↓Zaat,↓Zaan,↓Zaax,↓Zaaq,↓Zaar,↓Zaay,↓Zaas,↓bxPut,↓Zabs,↓Zabr,↓Zabt,↓Zaag,↓Zaah,↓Zaaf,↓Zabk,↓Zabj,↓Zabl,↓Zabq,↓Zacy,↓Zacz,↓Zadb,↓Zabg,↓Zabe,↓Zabf,↓dstAt,↓Zabh,Zacw,Zaae,Zabi,Zaad,Zacb,Zacr,Zacs,Zabm,List.map_cons,List.map_nil,List.nil_append,List.append_nil,↓reduceIte,Nat.reduceEqDiff,Nat.reduceLT,dec_F,Zaab,Nat.add_zero,one1,Option.bind_some,Option.map_some, *,lenIs,faT0,ldLs,ldC,ldG,ldW,one1] | (with_reducible first | refine Zacd (by assumption) (by decide +kernel) ?_ | refine Zacc (by decide +kernel) ?_ | refine Zacm (by decide +kernel) ?_ | refine Zacf ?_))
      · rw [decide_eq_false c2] at f2;have hp:=hpost false H9 ⟨fun h => (by cases h),fun h => absurd h.2 c2⟩ (hK8.trans hK9)
        clear hall hl hj hfit hK hK1 hK2 hKK hK5 hK8 hK9 hK26 hK06 hpost c1 c2 hi hj' z1 z2
        repeat' (first | simp only [↓Zaca,↓Zabv,↓Zabx,↓Zabz,↓Zaai,↓Zabu,↓Zabw,↓Zaby,↓Zacv,↓Zacu,↓Zaco,↓Zaak,↓Zacj,↓Zack,↓Zaci,↓Zace,↓Zacl,↓Zacg,↓Zach,↓Zacn,↓Zada,↓Zaaz,↓Zaau,↓Zaam,↓Zaav,↓Zaat,↓Zaan,↓Zaax,↓Zaaq,↓Zaar,↓Zaay,↓Zaas,↓bxPut,↓Zabs,↓Zabr,↓Zabt,↓Zaag,↓Zaah,↓Zaaf,↓Zabk,↓Zabj,↓Zabl,↓Zabq,↓Zacy,↓Zacz,↓Zadb,↓Zabg,↓Zabe,↓Zabf,↓dstAt,↓Zabh,Zacw,Zaae,Zabi,Zaad,Zacb,Zacr,Zacs,Zabm,List.map_cons,List.map_nil,List.nil_append,List.append_nil,↓reduceIte,Nat.reduceEqDiff,Nat.reduceLT,dec_F,Zaab,Nat.add_zero,one1,Option.bind_some,Option.map_some, *,lenIs,faT0,ldLs,ldC,ldG,ldW,one1] | (with_reducible first | refine Zacd (by assumption) (by decide +kernel) ?_ | refine Zacc (by decide +kernel) ?_ | refine Zacm (by decide +kernel) ?_ | refine Zacf ?_))
    · rw [decide_eq_false c1] at f1;have hp:=hpost false H8 ⟨fun h => (by cases h),fun h => absurd h.1 c1⟩ hK8
      clear hall hl hj hfit hK hK1 hK2 hKK hK5 hK8 hK9 hK26 hK06 hpost c1 f2 fd2 hL9 hi hj' z1 z2
      repeat' (first | simp only [↓Zaca,↓Zabv,↓Zabx,↓Zabz,↓Zaai,↓Zabu,↓Zabw,↓Zaby,↓Zacv,↓Zacu,↓Zaco,↓Zaak,↓Zacj,↓Zack,↓Zaci,↓Zace,↓Zacl,↓Zacg,↓Zach,↓Zacn,↓Zada,↓Zaaz,↓Zaau,↓Zaam,↓Zaav,↓Zaat,↓Zaan,↓Zaax,↓Zaaq,↓Zaar,↓Zaay,↓Zaas,↓bxPut,↓Zabs,↓Zabr,↓Zabt,↓Zaag,↓Zaah,↓Zaaf,↓Zabk,↓Zabj,↓Zabl,↓Zabq,↓Zacy,↓Zacz,↓Zadb,↓Zabg,↓Zabe,↓Zabf,↓dstAt,↓Zabh,Zacw,Zaae,Zabi,Zaac,Zacb,Zacq,Zacs,Zabm,List.map_cons,List.map_nil,List.nil_append,List.append_nil,↓reduceIte,Nat.reduceEqDiff,Nat.reduceLT,dec_F,Zaab,Nat.add_zero,one1,Option.bind_some,Option.map_some, *,faT0,ldLs,ldC,ldG,ldW,one1] | (with_reducible first | refine Zacd (by assumption) (by decide +kernel) ?_ | refine Zacc (by decide +kernel) ?_ | refine Zacm (by decide +kernel) ?_ | refine Zacf ?_))
end Go.Proofs.Ythkdnlegolphkaa
