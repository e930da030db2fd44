/- Sorting. -/
import Derived.Test.YteechkbnccpicaaS9I
set_option linter.unusedVariables false
set_option linter.unusedSimpArgs false
set_option linter.unusedSectionVars false

namespace Go.Proofs.Yteechkbnccpicaa
open Go Go.AM
set_option maxRecDepth 10000
theorem exD0I (a b:Value):aExtract (.tuple ⟨[a,b]⟩) 0 = some a:=by kernel_rfl
theorem exD1I (a b:Value):aExtract (.tuple ⟨[a,b]⟩) 1 = some b:=by kernel_rfl
variable {S:AM.Sys} (hS:Only S 11) {g:FuncId} {pre cs:List Value} {HB:Base} {V:Int → Prop} {lt:Int → Int → Bool} (hc:CmpI S g pre cs HB V lt) (hLB:HB.low ≤ HB.size) {b r c:Nat} {k:Bool}
include hS hc hLB

set_option maxHeartbeats 8000000 in
theorem pdqI_runs (hw:Sort.SWO lt) (n:Nat):∀ (lo hi:Nat) (L:Int) (d:Array Int) (H:Heap),hi - lo = n → lo ≤ hi → hi ≤ d.size → d.size ≤ 60000 → Sort.Below lt lo hi d → SaI HB H b r k d → AllI V d →
    ∃ u H',Runs Try.prog S (.fn 77) [.slice (some ⟨r,0,none⟩) d.size c,.int .i64 (lo:Int),.int .i64 (hi:Int),.int .i64 L,.func (.func g) ⟨pre⟩ ⟨cs⟩] H u H' ∧ DoneI HB b r k V lt lo hi d H H':=by
  induction n using Nat.strongRecOn with
  | _ n ih =>
  intro lo hi L d H hn hlh hhd hm hB hd hV
  suffices h:WCall Try.prog S (.fn 77) [.slice (some ⟨r,0,none⟩) d.size c,.int .i64 (lo:Int),.int .i64 (hi:Int),.int .i64 L,.func (.func g) ⟨pre⟩ ⟨cs⟩] H (fun u H' => DoneI HB b r k V lt lo hi d H H') by
    obtain ⟨u,H',hr,h⟩:=h; exact ⟨u,H',hr,h⟩
  have hmx:Go.maxLen = 9223372036854775807:=rfl;have hps0:PSI HB b r k V lt lo hi d H lo hi d H:=⟨hlh,hhd,hB,hV,rfl,hd,Nat.le_refl _,fun R h1 h2 => ⟨h1,h2⟩⟩
  have hn1:hi - lo ≤ n:=Nat.le_of_eq hn;clear hB hd hV hn;refine Zaba Try.func77 rfl (Nat.le_of_ble_eq_true rfl) (hS.no rfl _ _) ?_
  rw [Try.ntmps77,Try.results77]
  repeat' simp only [↓Zabx,↓Zabz,↓Zaaj,↓Zabu,↓Zacw,↓Zacv,↓Zadb,↓Zaam,↓bxPut,↓Zabs,↓Zabe,Nat.reduceLT, *]
  refine sxL_ofW (fun m ρ H1 => ∃ (a e:Nat) (L:Int) (d1:Array Int) (wb wp:Bool),m = e - a ∧ e - a ≤ n ∧ PSI HB b r k V lt lo hi d H a e d1 H1 ∧ ρ 0 = .slice (some ⟨r,0,none⟩) d.size c ∧ ρ 1 = .int .i64 (a:Int) ∧ ρ 2 = .int .i64 (e:Int) ∧ ρ 3 = .int .i64 L ∧ ρ 4 = .func (.func g) ⟨pre⟩ ⟨cs⟩ ∧ ρ 10 = .bool wb ∧ ρ 11 = .bool wp)
    ⟨lo,hi,L,d,true,true,rfl,hn1,hps0,rfl,rfl,rfl,rfl,rfl,rfl,rfl⟩ ?_
  clear hps0 hn1 L;rintro m ρ H1 ⟨a,e,L,d1,wb,wp,rfl,hle,hps,e0,e1,e2,e3,e4,e10,e11⟩;have hae:=hps.ae;have hes:=hps.es;have hgl:∃ l,l = e - a:=⟨_,rfl⟩;obtain ⟨l,hl⟩:=hgl;have hl1:l + a ≤ e:=by omega
  have hl2:e ≤ l + a:=by omega
  have hln:l ≤ n:=by omega
  rw [← hl];clear hl hle;have hwl:IntKind.i64.wrap ((e:Int) - (a:Int)) = (l:Int):=by rw [IntWalk.i64_in _ (by omega)]; omega
  refine WC.block ?_
  refine WC.cut (fun ρ H2 => H2 = H1 ∧ ρ 0 = .slice (some ⟨r,0,none⟩) d.size c ∧ ρ 1 = .int .i64 (a:Int) ∧ ρ 2 = .int .i64 (e:Int) ∧ ρ 3 = .int .i64 L ∧ ρ 4 = .func (.func g) ⟨pre⟩ ⟨cs⟩ ∧ ρ 10 = .bool wb ∧ ρ 11 = .bool wp ∧ ρ 12 = .int .i64 (l:Int)) ?_ ?_
  · repeat' simp only [↓Zabx,↓Zacw,↓Zacv,↓Zadb,↓Zaau,↓Zaam,↓Zaan,↓bxPut,↓Zabs,↓Zadc,↓Zabg,Zacx,Zaae,Zabi,↓reduceIte,Nat.reduceEqDiff,Nat.reduceLT,and_self, *]
  clear e0 e1 e2 e3 e4 e10 e11 ρ hwl;rintro ρ H2 ⟨rfl,e0,e1,e2,e3,e4,e10,e11,e12⟩;refine WC.cut (fun ρ H2 => 12 < l ∧ PSI HB b r k V lt lo hi d H a e d1 H2 ∧ ρ 0 = .slice (some ⟨r,0,none⟩) d.size c ∧ ρ 1 = .int .i64 (a:Int) ∧ ρ 2 = .int .i64 (e:Int) ∧ ρ 3 = .int .i64 L ∧ ρ 4 = .func (.func g) ⟨pre⟩ ⟨cs⟩ ∧ ρ 10 = .bool wb ∧ ρ 11 = .bool wp ∧ ρ 12 = .int .i64 (l:Int)) ?_ ?_
  · by_cases h12:l ≤ 12
    · have h12':(l:Int) ≤ 12:=by omega
      have hin:=insI_runs hS hc hLB (c:=c) d1 a e H2 hps.arr hps.all hae hps.e1 (by rw [hps.sz]; omega)
      obtain ⟨u,H3,hR3,hp3⟩:=hin;rw [hps.sz] at hR3;have f3:=hR3.bx;have hdone:=hps.ins hw hp3;clear hR3 hps hp3
      repeat' simp only [↓Zaca,↓Zabx,↓Zabz,↓Zaai,↓Zaby,↓Zacw,↓Zacv,↓Zadb,↓Zaau,↓Zaan,↓Zaay,↓bxPut,↓Zabs,↓Zabt,↓Zaah,↓Zabl,↓Zabq,↓Zacz,↓Zadc,↓Zabg,↓Zabe,↓Zabf,Zacx,Zaae,Zabi,Zacb,Zacu,List.map,List.nil_append,List.append_nil,↓reduceIte,Nat.reduceEqDiff,Nat.reduceLT,dec_T, *]
    · have h12':¬ (l:Int) ≤ 12:=by omega
      have h12n:12 < l:=by omega
      repeat' simp only [↓Zaca,↓Zabx,↓Zabz,↓Zaai,↓Zaby,↓Zacw,↓Zacv,↓Zadb,↓Zaau,↓Zaan,↓Zaay,↓bxPut,↓Zabs,↓Zabt,↓Zaah,↓Zabl,↓Zabq,↓Zacz,↓Zadc,↓Zabg,↓Zabe,↓Zabf,Zacx,Zaae,Zabi,Zacb,Zact,List.nil_append,↓reduceIte,Nat.reduceEqDiff,Nat.reduceLT,dec_F,and_self, *]
  clear e0 e1 e2 e3 e4 e10 e11 e12 ρ hps;rintro ρ H2 ⟨h12,hps,e0,e1,e2,e3,e4,e10,e11,e12⟩;have hlt:a < e:=by omega
  refine WC.cut (fun ρ H2 => PSI HB b r k V lt lo hi d H a e d1 H2 ∧ ρ 0 = .slice (some ⟨r,0,none⟩) d.size c ∧ ρ 1 = .int .i64 (a:Int) ∧ ρ 2 = .int .i64 (e:Int) ∧ ρ 3 = .int .i64 L ∧ ρ 4 = .func (.func g) ⟨pre⟩ ⟨cs⟩ ∧ ρ 10 = .bool wb ∧ ρ 11 = .bool wp ∧ ρ 12 = .int .i64 (l:Int)) ?_ ?_
  · by_cases hL0:L = 0
    · have hL0':decide (L = 0) = true:=decide_eq_true hL0;have hin:=heapI_runs hS hc hLB (c:=c) d1 a e H2 hps.arr hps.all hlt hps.e1 (by rw [hps.sz]; omega)
      obtain ⟨u,H3,hR3,hp3⟩:=hin;rw [hps.sz] at hR3;have f3:=hR3.bx;have hdone:=hps.heap hw hp3;clear hR3 hps hp3 hL0
      repeat' simp only [↓Zaca,↓Zabx,↓Zabz,↓Zaai,↓Zaby,↓Zacw,↓Zacv,↓Zadb,↓Zaau,↓Zaan,↓Zaay,↓bxPut,↓Zabs,↓Zabt,↓Zaah,↓Zabl,↓Zabq,↓Zacz,↓Zadc,↓Zabg,↓Zabe,↓Zabf,Zacx,Zaae,Zabi,Zacb,Zacu,List.map,List.nil_append,List.append_nil,↓reduceIte,Nat.reduceEqDiff,Nat.reduceLT, *]
    · have hL0':decide (L = 0) = false:=decide_eq_false hL0
      repeat' simp only [↓Zaca,↓Zabx,↓Zabz,↓Zaai,↓Zaby,↓Zacw,↓Zacv,↓Zadb,↓Zaau,↓Zaan,↓Zaay,↓bxPut,↓Zabs,↓Zabt,↓Zaah,↓Zabl,↓Zabq,↓Zacz,↓Zadc,↓Zabg,↓Zabe,↓Zabf,Zacx,Zaae,Zabi,Zacb,Zact,List.nil_append,↓reduceIte,Nat.reduceEqDiff,Nat.reduceLT,dec_F,and_self, *]
  clear e0 e1 e2 e3 e4 e10 e11 e12 ρ hps;rintro ρ H2 ⟨hps,e0,e1,e2,e3,e4,e10,e11,e12⟩;refine WC.cut (fun ρ H2 => ∃ (L:Int) (d1:Array Int),PSI HB b r k V lt lo hi d H a e d1 H2 ∧ ρ 0 = .slice (some ⟨r,0,none⟩) d.size c ∧ ρ 1 = .int .i64 (a:Int) ∧ ρ 2 = .int .i64 (e:Int) ∧ ρ 3 = .int .i64 L ∧ ρ 4 = .func (.func g) ⟨pre⟩ ⟨cs⟩ ∧ ρ 10 = .bool wb ∧ ρ 11 = .bool wp ∧ ρ 12 = .int .i64 (l:Int)) ?_ ?_
  · cases wb with
    | true =>
      repeat' simp only [↓Zaca,↓Zabx,↓Zabz,↓Zaai,↓Zacw,↓Zacv,↓Zadb,↓Zaau,↓Zaam,↓Zaan,↓Zaax,↓Zaay,↓bxPut,↓Zabs,↓Zadc,↓Zabg,↓Zabe,↓Zabf,Zacx,una_nt,Zacb,Zact,List.nil_append,↓reduceIte,Nat.reduceEqDiff,Nat.reduceLT,true_and,and_true,and_self, *]
      exact ⟨L,d1,hps,rfl⟩
    | false =>
      have hin:=brkI_runs hS hLB (c:=c) (V:=V) (.func (.func g) ⟨pre⟩ ⟨cs⟩) d1 a e H2 hps.arr hps.all hlt hps.e1 (by rw [hps.sz]; omega)
      obtain ⟨u,H3,hR3,hp3⟩:=hin;rw [hps.sz] at hR3;have f3:=hR3.bx;have hps3:=hps.brk hp3;obtain ⟨d3,hps3⟩:=hps3;clear hR3 hps hp3
      repeat' simp only [↓Zaca,↓Zabx,↓Zabz,↓Zaai,↓Zacw,↓Zacv,↓Zadb,↓Zaau,↓Zaam,↓Zaan,↓Zaax,↓Zaay,↓bxPut,↓Zabs,↓Zadc,↓Zabg,↓Zabe,↓Zabf,Zacx,Zaae,Zabi,una_nf,Zacb,Zacu,List.map,List.nil_append,List.append_nil,↓reduceIte,Nat.reduceEqDiff,Nat.reduceLT,true_and,and_true,and_self, *]
      exact ⟨_,d3,hps3,rfl⟩
  clear e0 e1 e2 e3 e4 e10 e11 e12 ρ hps d1 L;rintro ρ H2 ⟨L,d1,hps,e0,e1,e2,e3,e4,e10,e11,e12⟩;refine WC.cut (fun ρ H2 => ∃ (p:Nat) (h:Int),a ≤ p ∧ p < e ∧ PSI HB b r k V lt lo hi d H a e d1 H2 ∧ ρ 0 = .slice (some ⟨r,0,none⟩) d.size c ∧ ρ 1 = .int .i64 (a:Int) ∧ ρ 2 = .int .i64 (e:Int) ∧ ρ 3 = .int .i64 L ∧ ρ 4 = .func (.func g) ⟨pre⟩ ⟨cs⟩ ∧ ρ 10 = .bool wb ∧ ρ 11 = .bool wp ∧ ρ 12 = .int .i64 (l:Int) ∧ ρ 13 = .int .i64 (p:Int) ∧ ρ 14 = .int .i64 h) ?_ ?_
  · have hin:=chooI_runs hS hc hLB (c:=c) d1 a e H2 hps.arr hps.all hlt hps.e1 (by rw [hps.sz]; omega)
    obtain ⟨u,H3,hR3,⟨p,h,hp1,hp2,rfl⟩,hp3,hp4⟩:=hin;rw [hps.sz] at hR3;have f3:=hR3.bx;have hps3:=hps.perm (Sort.permIn_refl _ _ _) hp3 hp4;clear hR3 hps hp3 hp4
    repeat' simp only [↓Zabx,↓Zacw,↓Zacv,↓Zadb,↓Zaau,↓Zaam,↓Zaap,↓Zaay,↓bxPut,↓Zabs,↓Zadc,↓Zabg,↓Zabf,Zacx,Zacb,List.map,List.nil_append,List.append_nil,↓reduceIte,Nat.reduceEqDiff,Nat.reduceLT,true_and, *,exD0I,exD1I]
    exact ⟨p,h,hp1,hp2,rfl,rfl⟩
  clear e0 e1 e2 e3 e4 e10 e11 e12 ρ hps;rintro ρ H2 ⟨p,h,hp1,hp2,hps,e0,e1,e2,e3,e4,e10,e11,e12,e13,e14⟩;refine WC.cut (fun ρ H2 => ∃ (p:Nat) (h:Int) (d1:Array Int),a ≤ p ∧ p < e ∧ PSI HB b r k V lt lo hi d H a e d1 H2 ∧ ρ 0 = .slice (some ⟨r,0,none⟩) d.size c ∧ ρ 1 = .int .i64 (a:Int) ∧ ρ 2 = .int .i64 (e:Int) ∧ ρ 3 = .int .i64 L ∧ ρ 4 = .func (.func g) ⟨pre⟩ ⟨cs⟩ ∧ ρ 10 = .bool wb ∧ ρ 11 = .bool wp ∧ ρ 12 = .int .i64 (l:Int) ∧ ρ 13 = .int .i64 (p:Int) ∧ ρ 14 = .int .i64 h) ?_ ?_
  · by_cases hh2:h = 2
    · have hh2':decide (h = 2) = true:=decide_eq_true hh2;have hin:=revI_runs hS hLB (c:=c) (.func (.func g) ⟨pre⟩ ⟨cs⟩) d1 a e H2 hps.arr hlt hps.e1 (by rw [hps.sz]; omega)
      obtain ⟨u,H3,hR3,hp3⟩:=hin;rw [hps.sz] at hR3;have f3:=hR3.bx;have hps3:=hps.rev hp3;obtain ⟨d3,hps3⟩:=hps3;have hw1:IntKind.i64.wrap ((e:Int) - 1) = (e:Int) - 1:=by rw [IntWalk.i64_in _ (by omega)]
      have hw2:IntKind.i64.wrap ((p:Int) - (a:Int)) = (p:Int) - (a:Int):=by rw [IntWalk.i64_in _ (by omega)]
      have hw3:IntKind.i64.wrap ((e:Int) - 1 - ((p:Int) - (a:Int))) = ((e - 1 - (p - a):Nat):Int):=by rw [IntWalk.i64_in _ (by omega)]; omega
      have hq1:a ≤ e - 1 - (p - a):=by omega
      have hq2:e - 1 - (p - a) < e:=by omega
      clear hR3 hps hp3 hh2
      repeat' simp only [↓Zaca,↓Zabx,↓Zabz,↓Zaai,↓Zacw,↓Zacv,↓Zadb,↓Zaau,↓Zaam,↓Zaan,↓Zaay,↓bxPut,↓Zabs,↓Zadc,↓Zabg,↓Zabe,↓Zabf,Zacx,Zaae,Zabi,Zacb,Zacu,List.map,List.nil_append,List.append_nil,↓reduceIte,Nat.reduceEqDiff,Nat.reduceLT,true_and, *]
      exact ⟨e - 1 - (p - a),1,d3,hq1,hq2,hps3,rfl,rfl⟩
    · have hh2':decide (h = 2) = false:=decide_eq_false hh2
      repeat' simp only [↓Zaca,↓Zabx,↓Zabz,↓Zaai,↓Zacw,↓Zacv,↓Zadb,↓Zaau,↓Zaam,↓Zaan,↓Zaay,↓bxPut,↓Zabs,↓Zadc,↓Zabg,↓Zabe,↓Zabf,Zacx,Zaae,Zabi,Zacb,Zact,List.nil_append,↓reduceIte,Nat.reduceEqDiff,Nat.reduceLT,dec_F,true_and, *]
      exact ⟨p,h,d1,hp1,hp2,hps,rfl,rfl⟩
  clear e0 e1 e2 e3 e4 e10 e11 e12 e13 e14 ρ hps d1 hp1 hp2 p h;rintro ρ H2 ⟨p,h,d1,hp1,hp2,hps,e0,e1,e2,e3,e4,e10,e11,e12,e13,e14⟩;refine WC.cut (fun ρ H2 => ∃ (d1:Array Int),PSI HB b r k V lt lo hi d H a e d1 H2 ∧ ρ 0 = .slice (some ⟨r,0,none⟩) d.size c ∧ ρ 1 = .int .i64 (a:Int) ∧ ρ 2 = .int .i64 (e:Int) ∧ ρ 3 = .int .i64 L ∧ ρ 4 = .func (.func g) ⟨pre⟩ ⟨cs⟩ ∧ ρ 10 = .bool wb ∧ ρ 11 = .bool wp ∧ ρ 12 = .int .i64 (l:Int) ∧ ρ 13 = .int .i64 (p:Int)) ?_ ?_
  · have hin:=pinsI_runs hS hc hLB (c:=c) d1 a e H2 hps.arr hps.all hlt hps.e1 (by rw [hps.sz]; omega)
    obtain ⟨u,H3,hR3,hp3⟩:=hin;rw [hps.sz] at hR3;have hps3:=hps.pins hw hlt hp3;clear hp3
    by_cases hh1:h = 1
    case neg =>
      have hh1':decide (h = 1) = false:=decide_eq_false hh1;clear hR3 hps3;cases wb <;> cases wp;all_goals
        repeat' simp only [↓Zaca,↓Zabx,↓Zabz,↓Zaai,↓Zaby,↓Zacw,↓Zacv,↓Zadb,↓Zaaz,↓Zaau,↓Zaav,↓Zaan,↓Zaay,↓bxPut,↓Zabs,↓Zabt,↓Zaah,↓Zabl,↓Zabq,↓Zacz,↓Zadc,↓Zabg,↓Zabe,↓Zabf,↓dstAt,↓Zabh,Zacx,Zaae,Zabi,Zaad,Zaac,Zacb,Zacs,Zacr,Zact,List.nil_append,↓reduceIte,Nat.reduceEqDiff,Nat.reduceLT,dec_F,and_true,and_self, *]
      all_goals exact ⟨d1,hps⟩
    have hh1':decide (h = 1) = true:=decide_eq_true hh1;clear hh1;rcases hps3 with ⟨rfl,hdone⟩ | ⟨rfl,d3,hps3⟩
    · have f3:=hR3.bx;clear hR3;cases wb <;> cases wp;all_goals
        repeat' simp only [↓Zaca,↓Zabx,↓Zabz,↓Zaai,↓Zaby,↓Zacw,↓Zacv,↓Zadb,↓Zaaz,↓Zaau,↓Zaav,↓Zaan,↓Zaay,↓bxPut,↓Zabs,↓Zabt,↓Zaah,↓Zabl,↓Zabq,↓Zacz,↓Zadc,↓Zabg,↓Zabe,↓Zabf,↓dstAt,↓Zabh,Zacx,Zaae,Zabi,Zaad,Zaac,Zacb,Zacs,Zacr,Zacu,Zact,List.map,List.nil_append,List.append_nil,↓reduceIte,Nat.reduceEqDiff,Nat.reduceLT,and_true,and_self, *]
      all_goals exact ⟨d1,hps⟩
    · have f3:=hR3.bx;clear hR3;cases wb <;> cases wp;all_goals
        repeat' simp only [↓Zaca,↓Zabx,↓Zabz,↓Zaai,↓Zaby,↓Zacw,↓Zacv,↓Zadb,↓Zaaz,↓Zaau,↓Zaav,↓Zaan,↓Zaay,↓bxPut,↓Zabs,↓Zabt,↓Zaah,↓Zabl,↓Zabq,↓Zacz,↓Zadc,↓Zabg,↓Zabe,↓Zabf,↓dstAt,↓Zabh,Zacx,Zaae,Zabi,Zaad,Zaac,Zacb,Zacs,Zacr,Zacu,Zact,List.map,List.nil_append,List.append_nil,↓reduceIte,Nat.reduceEqDiff,Nat.reduceLT,and_true,and_self, *]
      all_goals first
        | exact ⟨d1,hps⟩
        | exact ⟨d3,hps3⟩
  clear e0 e1 e2 e3 e4 e10 e11 e12 e13 e14 ρ hps d1 h;rintro ρ H2 ⟨d1,hps,e0,e1,e2,e3,e4,e10,e11,e12,e13⟩;refine WC.cut (fun ρ H2 => PSI HB b r k V lt lo hi d H a e d1 H2 ∧ ρ 0 = .slice (some ⟨r,0,none⟩) d.size c ∧ ρ 1 = .int .i64 (a:Int) ∧ ρ 2 = .int .i64 (e:Int) ∧ ρ 3 = .int .i64 L ∧ ρ 4 = .func (.func g) ⟨pre⟩ ⟨cs⟩ ∧ ρ 10 = .bool wb ∧ ρ 11 = .bool wp ∧ ρ 12 = .int .i64 (l:Int) ∧ ρ 13 = .int .i64 (p:Int)) ?_ ?_
  · have hL2:=hps.arr.lowS hLB
    by_cases ha0:0 < a
    case neg =>
      have ha0':¬ (0:Int) < (a:Int):=by omega
      repeat' (first | simp only [↓Zaca,↓Zabv,↓Zabx,↓Zabz,↓Zaai,↓Zabw,↓Zacw,↓Zacv,↓Zaco,↓Zaak,↓Zacj,↓Zack,↓Zaci,↓Zace,↓Zacl,↓Zach,↓Zacn,↓Zadb,↓Zaaz,↓Zaau,↓Zaam,↓Zaav,↓Zaat,↓Zaan,↓Zaax,↓Zaar,↓Zaay,↓bxPut,↓Zabs,↓Zabr,↓Zaaf,↓Zabk,↓Zabj,↓Zabp,↓Zacz,↓Zadc,↓Zabg,↓Zabe,↓Zabf,↓dstAt,↓Zabh,Zacx,Zaae,Zabi,Zaac,Zacb,Zacr,Zact,List.nil_append,↓reduceIte,Nat.reduceEqDiff,Nat.reduceLT,dec_F,and_true,and_self, *] | (with_reducible first | refine Zacd (by assumption) (by decide +kernel) ?_ | refine Zacc (by decide +kernel) ?_ | refine Zacm (by decide +kernel) ?_ | refine Zacf ?_))
    have ha0':(0:Int) < (a:Int):=by omega
    have hsz:=hps.sz;have hwa:IntKind.i64.wrap ((a:Int) - 1) = ((a - 1:Nat):Int):=by rw [IntWalk.i64_in _ (by omega)]; omega
    have hF0:a - 1 < d1.size:=by omega
    have hF1:p < d1.size:=by omega
    have hix0:Zaaa Try.prog 25 (.slice (some ⟨r,0,none⟩) d.size c) (.int .i64 ((a - 1:Nat):Int)) = _:=ixAtI (by omega)
    have hix1:Zaaa Try.prog 25 (.slice (some ⟨r,0,none⟩) d.size c) (.int .i64 (p:Int)) = _:=ixAtI (by omega)
    have l0:=ldAtI hps.arr hF0;have l1:=ldAtI hps.arr hF1;have hcx:=cmpDI hc hLB hps.arr hps.all hF0 hF1;obtain ⟨z,Hb,H5,hz,f5,g5,hd5,hs5,hL5⟩:=hcx;have hps5:=hps.perm (Sort.permIn_refl _ _ _) hd5 hs5;have hcs:lt d1[a - 1]! d1[p]! = true ∨ lt d1[a - 1]! d1[p]! = false:=by cases lt d1[a - 1]! d1[p]! <;> simp
    clear hsz;rcases hcs with hl5 | hl5
    · rw [hl5] at hz;clear hl5 hps
      repeat' (first | simp only [↓Zaca,↓Zabv,↓Zabx,↓Zabz,↓Zaai,↓Zabw,↓Zacw,↓Zacv,↓Zaco,↓Zaak,↓Zacj,↓Zack,↓Zaci,↓Zace,↓Zacl,↓Zach,↓Zacn,↓Zadb,↓Zaaz,↓Zaau,↓Zaam,↓Zaav,↓Zaat,↓Zaan,↓Zaax,↓Zaar,↓Zaay,↓bxPut,↓Zabs,↓Zabr,↓Zaaf,↓Zabk,↓Zabj,↓Zabp,↓Zacz,↓Zadc,↓Zabg,↓Zabe,↓Zabf,↓dstAt,↓Zabh,Zacx,Zaae,Zabi,una_nt,Zaad,Zacb,Zacs,Zact,List.map,List.nil_append,↓reduceIte,Nat.reduceEqDiff,Nat.reduceLT,dec_T,and_true,and_self,Zaab, *] | (with_reducible first | refine Zacd (by assumption) (by decide +kernel) ?_ | refine Zacc (by decide +kernel) ?_ | refine Zacm (by decide +kernel) ?_ | refine Zacf ?_))
    · rw [hl5] at hz;have hin:=peqI_runs hS hc hLB (c:=c) d1 a e p H5 hd5 hps.all hp1 hp2 hps.e1 (by rw [hps.sz]; omega)
      obtain ⟨u,H3,hR3,hp3⟩:=hin;rw [hps.sz] at hR3;have hps6:=hps5.peq hw ha0 hp1 hp2 hl5 hp3;obtain ⟨mid,d3,rfl,hm1,hm2,hps6⟩:=hps6;have f3:=hR3.bx;have hmm:e - mid < l:=by omega
      have hmn:e - mid ≤ n:=by omega
      clear hR3 hps hl5 hp3 hps5
      repeat' (first | simp only [↓Zaca,↓Zabv,↓Zabx,↓Zabz,↓Zaai,↓Zabw,↓Zacw,↓Zacv,↓Zaco,↓Zaak,↓Zacj,↓Zack,↓Zaci,↓Zace,↓Zacl,↓Zach,↓Zacn,↓Zadb,↓Zaaz,↓Zaau,↓Zaam,↓Zaav,↓Zaat,↓Zaan,↓Zaax,↓Zaar,↓Zaay,↓bxPut,↓Zabs,↓Zabr,↓Zaaf,↓Zabk,↓Zabj,↓Zabp,↓Zacz,↓Zadc,↓Zabg,↓Zabe,↓Zabf,↓dstAt,↓Zabh,Zacx,Zaae,Zabi,una_nf,Zaad,Zacb,Zacs,Zacu,List.map,List.nil_append,List.append_nil,↓reduceIte,Nat.reduceEqDiff,Nat.reduceLT,dec_T,true_and,Zaab, *] | (with_reducible first | refine Zacd (by assumption) (by decide +kernel) ?_ | refine Zacc (by decide +kernel) ?_ | refine Zacm (by decide +kernel) ?_ | refine Zacf ?_))
      exact ⟨e - mid,hmm,mid,e,L,d3,wb,wp,rfl,hmn,hps6,rfl,rfl,rfl,rfl,rfl⟩
  clear e0 e1 e2 e3 e4 e10 e11 e12 e13 ρ hps;rintro ρ H2 ⟨hps,e0,e1,e2,e3,e4,e10,e11,e12,e13⟩;have hin:=partI_runs hS hc hLB (c:=c) d1 a e p H2 hps.arr hps.all hp1 hp2 hps.e1 (by rw [hps.sz]; omega)
  obtain ⟨u,H3,hR3,hp3⟩:=hin;rw [hps.sz] at hR3;have hcut:=hps.part hw hp1 hp2 hp3;obtain ⟨mid,bb,d3,rfl,hm1,hm2,hsz3,hV3,hd3,hHs3,hB1,hB2,hfa,hfb⟩:=hcut;have f3:=hR3.bx;have hwm1:IntKind.i64.wrap ((mid:Int) - (a:Int)) = ((mid - a:Nat):Int):=by rw [IntWalk.i64_in _ (by omega)]; omega
  have hwm2:IntKind.i64.wrap ((e:Int) - (mid:Int)) = ((e - mid:Nat):Int):=by rw [IntWalk.i64_in _ (by omega)]; omega
  have hwm3:IntKind.i64.wrap ((mid:Int) + 1) = ((mid + 1:Nat):Int):=by rw [IntWalk.i64_in _ (by omega)]; omega
  have d8:¬ ((8:Int) = 0):=by decide
  clear hR3 hps hp3;refine WC.of ?_
  by_cases hlr:mid - a < e - mid
  · have hlr':((mid - a:Nat):Int) < ((e - mid:Nat):Int):=by omega
    have hrec:=ih (mid - a) (by omega) a mid L d3 H3 rfl hm1 (by omega) (by rw [hsz3]; exact hm) hB1 hd3 hV3
    obtain ⟨u,H4,hR4,hdn⟩:=hrec;rw [hsz3] at hR4;have f4:=hR4.bx;have hps4:=hfa H4 hdn;obtain ⟨d4,hps4⟩:=hps4;have hmm:e - (mid + 1) < l:=by omega
    have hmn:e - (mid + 1) ≤ n:=by omega
    clear hR4 hdn hfa hfb ih hd3 hV3 hsz3 hB1 hB2 hlr
    repeat' simp only [↓Zabx,↓Zabz,↓Zaai,↓Zacw,↓Zacv,↓Zadb,↓Zaau,↓Zaam,↓Zaan,↓Zaap,↓Zaay,↓bxPut,↓Zabs,↓Zaag,↓Zabk,↓Zadc,↓Zabg,↓Zabe,↓Zabf,Zacx,Zaae,Zabi,Zacb,Zacu,List.map,List.nil_append,List.append_nil,↓reduceIte,Nat.reduceEqDiff,Nat.reduceLT,dec_T,true_and,ne_eq,not_false_eq_true, *,exD0I,exD1I]
    exact ⟨e - (mid + 1),hmm,mid + 1,e,L,d4,_,bb,rfl,hmn,hps4,rfl,rfl,rfl,rfl,rfl⟩
  · have hlr':¬ ((mid - a:Nat):Int) < ((e - mid:Nat):Int):=by omega
    have hrec:=ih (e - (mid + 1)) (by omega) (mid + 1) e L d3 H3 rfl (by omega) (by omega) (by rw [hsz3]; exact hm) hB2 hd3 hV3
    obtain ⟨u,H4,hR4,hdn⟩:=hrec;rw [hsz3] at hR4;have f4:=hR4.bx;have hps4:=hfb H4 hdn;obtain ⟨d4,hps4⟩:=hps4;have hmm:mid - a < l:=by omega
    have hmn:mid - a ≤ n:=by omega
    clear hR4 hdn hfa hfb ih hd3 hV3 hsz3 hB1 hB2 hlr
    repeat' simp only [↓Zabx,↓Zabz,↓Zaai,↓Zacw,↓Zacv,↓Zadb,↓Zaau,↓Zaam,↓Zaan,↓Zaap,↓Zaay,↓bxPut,↓Zabs,↓Zaag,↓Zabk,↓Zadc,↓Zabg,↓Zabe,↓Zabf,Zacx,Zaae,Zabi,Zacb,Zact,List.map,List.nil_append,List.append_nil,↓reduceIte,Nat.reduceEqDiff,Nat.reduceLT,dec_F,true_and,ne_eq,not_false_eq_true, *,exD0I,exD1I]
    exact ⟨mid - a,hmm,a,mid,L,d4,_,bb,rfl,hmn,hps4,rfl,rfl,rfl,rfl,rfl⟩
end Go.Proofs.Yteechkbnccpicaa
