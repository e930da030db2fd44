/- slices.SortFunc. -/
import Derived.Test.YteechkbnccpicaaSDI
import Derived.Test.YteechkbnccpicaaU1
set_option linter.unusedVariables false
set_option linter.unusedSimpArgs false
set_option linter.unusedSectionVars false

namespace Go.Proofs.Yteechkbnccpicaa
open Go Go.AM
set_option maxRecDepth 10000
variable {S:AM.Sys} (hS:Only S 11) {g:FuncId} {pre cs:List Value} {HB:Base} {V:Int → Prop} {lt:Int → Int → Bool} (hc:CmpI S g pre cs HB V lt) (hLB:HB.low ≤ HB.size) {b r c:Nat} {k:Bool}
include hS hc hLB

theorem sortI_runs (hw:Sort.SWO lt) (d:Array Int) (H:Heap) (hm:d.size ≤ 60000) (hd:SaI HB H b r k d) (hV:AllI V d) :
    ∃ u H',Runs Try.prog S (.fn 56) [.slice (some ⟨r,0,none⟩) d.size c,.func (.func g) ⟨pre⟩ ⟨cs⟩] H u H' ∧ DoneI HB b r k V lt 0 d.size d H H':=by
  suffices h:WCall Try.prog S (.fn 56) [.slice (some ⟨r,0,none⟩) d.size c,.func (.func g) ⟨pre⟩ ⟨cs⟩] H (fun u H' => DoneI HB b r k V lt 0 d.size d H H') by
    obtain ⟨u,H',hr,h⟩:=h; exact ⟨u,H',hr,h⟩
  have f1:=(bLen_runs hS d.size (by omega) H).bx
  have hw0:IntKind.u64.wrap ((d.size:Nat):Int) = ((d.size:Nat):Int):=IntWalk.u64_in _ (by omega)
  obtain ⟨u,H2,hR2,hdone⟩:=pdqI_runs hS hc hLB (c:=c) hw (d.size - 0) 0 d.size ((Sort.bitsLen d.size:Nat):Int) d H rfl (Nat.zero_le _) (Nat.le_refl _) hm (.inl rfl) hd hV;have f2:=hR2.bx;have f2':∀ (K:Value → Heap → Prop) (bl:Blk K),sxCallB Try.prog S (.fn 77) [.slice (some ⟨r,0,none⟩) d.size c,.int .i64 0,.int .i64 ((d.size:Nat):Int),.int .i64 ((Sort.bitsLen d.size:Nat):Int),.func (.func g) ⟨pre⟩ ⟨cs⟩] H K bl = K u H2:=f2;clear hR2 hd hV f2;refine Zaba Try.func56 rfl (Nat.le_of_ble_eq_true rfl) (hS.no rfl _ _) ?_
  rw [Try.ntmps56,Try.results56]
  repeat' simp only [↓Zabx,↓Zabz,↓Zacw,↓Zacv,↓Zadb,↓Zaau,↓Zaam,↓Zaay,↓Zaas,↓bxOp_convert,↓bxPut,↓Zabs,↓Zabp,↓Zacz,↓Zadc,↓Zabg,↓Zabe,↓Zabf,aConvH_int,Zacx,Zacb,List.map,List.nil_append,List.append_nil,↓reduceIte,Nat.reduceEqDiff,Nat.reduceLT, *,argF,List.getD_cons_zero,List.getD_cons_succ,lenI,cvIU]
end Go.Proofs.Yteechkbnccpicaa

namespace Go.Proofs.Yteechkbnccpicaa
open Go Go.AM
set_option maxRecDepth 10000

def tv (a:Option Addr) (n c:Nat) (ch:Int) (v:Value):Value:=.agg ⟨[.slice a n c,.int .i64 ch,v]⟩
def wv (fr to at' by':Int):Value:=.agg ⟨[.int .i64 fr,.int .i64 to,.int .i64 at',.int .i64 by']⟩
theorem boxT (H:Heap) (a:Option Addr) (n c:Nat) (ch:Int) (v:Value):∃ H1,H.newExact [.slice a n c,.int .i64 ch,v] 64 = H1 ∧ Keep H H1 ∧ H1.read H.size 0 3 = some [.slice a n c,.int .i64 ch,v] ∧ H1.read H.size 0 1 = some [.slice a n c] ∧ H1.read H.size 1 1 = some [.int .i64 ch] ∧ H1.read H.size 2 1 = some [v]:=by
  obtain ⟨H1,e1,hK1,hz1,hr1,hrs⟩:=boxS H [.slice a n c,.int .i64 ch,v] 64;exact ⟨H1,e1,hK1,hr1,hrs 0 1 (by simp),hrs 1 1 (by simp),hrs 2 1 (by simp)⟩
theorem boxW (H:Heap) (fr to at' by':Int):∃ H1,H.newExact [.int .i64 fr,.int .i64 to,.int .i64 at',.int .i64 by'] 72 = H1 ∧ Keep H H1 ∧ H1.read H.size 0 4 = some [.int .i64 fr,.int .i64 to,.int .i64 at',.int .i64 by'] ∧ H1.read H.size 0 1 = some [.int .i64 fr] ∧ H1.read H.size 1 1 = some [.int .i64 to] ∧ H1.read H.size 2 1 = some [.int .i64 at'] ∧ H1.read H.size 3 1 = some [.int .i64 by']:=by
  obtain ⟨H1,e1,hK1,hz1,hr1,hrs⟩:=boxS H [.int .i64 fr,.int .i64 to,.int .i64 at',.int .i64 by'] 72
  exact ⟨H1,e1,hK1,hr1,hrs 0 1 (by simp),hrs 1 1 (by simp),hrs 2 1 (by simp),hrs 3 1 (by simp)⟩

variable {S:AM.Sys} (hS:Only S 11)
include hS

theorem isNaN_runs (x:Int) (H:Heap):Runs Try.prog S (.fn 79) [.int .i64 x] H (.bool false) H:=by
  suffices h:WCall Try.prog S (.fn 79) [.int .i64 x] H (fun v H' => v = .bool false ∧ H' = H) by
    obtain ⟨_,_,hr,rfl,rfl⟩:=h; exact hr
  have d:decide (¬ x = x) = false:=decide_eq_false fun h => h rfl
  refine Zaba Try.func79 rfl (Nat.le_of_ble_eq_true rfl) (hS.no rfl _ _) ?_
  rw [Try.ntmps79,Try.results79]
  repeat' simp only [↓Zabx,↓Zabz,↓Zaby,↓Zacw,↓Zacv,↓Zadb,↓Zaau,↓Zaam,↓Zaan,↓bxPut,↓Zabs,↓Zabq,↓Zacz,↓Zada,↓Zadc,↓Zabg,↓Zabe,Zacx,Zaae,Zabi,Zabm,↓reduceIte,Nat.reduceEqDiff,Nat.reduceLT,dec_F,and_self,not_true_eq_false, *,argF,List.getD_cons_zero]
theorem cmpC_runs (x y:Int) (H:Heap):∃ z,(z < 0 ↔ x < y) ∧ Runs Try.prog S (.fn 60) [.int .i64 x,.int .i64 y] H (.int .i64 z) H:=by
  suffices h:WCall Try.prog S (.fn 60) [.int .i64 x,.int .i64 y] H (fun v H' => ∃ z,(z < 0 ↔ x < y) ∧ v = .int .i64 z ∧ H' = H) by
    obtain ⟨_,_,hr,z,h,rfl,rfl⟩:=h; exact ⟨z,h,hr⟩
  have f1:=(isNaN_runs hS x H).bx;have f2:=(isNaN_runs hS y H).bx;refine Zaba Try.func60 rfl (Nat.le_of_ble_eq_true rfl) (hS.no rfl _ _) ?_
  rw [Try.ntmps60,Try.results60]
  by_cases h1:x < y
  · repeat' simp only [↓Zaca,↓Zabx,↓Zabz,↓Zaai,↓Zaby,↓Zacw,↓Zacv,↓Zadb,↓Zaau,↓Zaam,↓Zaan,↓Zaay,↓bxPut,↓Zabs,↓Zabt,↓Zabq,↓Zacz,↓Zada,↓Zadc,↓Zabg,↓Zabe,↓Zabf,Zacx,Zaae,Zabi,Zacb,Zacu,Zact,Zabm,List.map,List.nil_append,List.append_nil,↓reduceIte,Nat.reduceEqDiff,Nat.reduceLT,dec_T,and_true, *,argF,List.getD_cons_zero,List.getD_cons_succ]
    exact ⟨-1,(by first | omega | (constructor <;> intro hh <;> first | trivial | (revert hh; decide) | (exact absurd hh (by decide)))),rfl⟩
  · by_cases h2:y < x
    · repeat' simp only [↓Zaca,↓Zabx,↓Zabz,↓Zaai,↓Zaby,↓Zacw,↓Zacv,↓Zadb,↓Zaau,↓Zaam,↓Zaan,↓Zaay,↓bxPut,↓Zabs,↓Zabt,↓Zabq,↓Zacz,↓Zada,↓Zadc,↓Zabg,↓Zabe,↓Zabf,Zacx,Zaae,Zabi,Zacb,Zacu,Zact,Zabm,List.map,List.nil_append,List.append_nil,↓reduceIte,Nat.reduceEqDiff,Nat.reduceLT,dec_T,dec_F,and_true, *,argF,List.getD_cons_zero,List.getD_cons_succ]
      exact ⟨1,(by first | omega | (constructor <;> intro hh <;> first | trivial | (revert hh; decide) | (exact absurd hh (by decide)))),rfl⟩
    · repeat' simp only [↓Zaca,↓Zabx,↓Zabz,↓Zaai,↓Zaby,↓Zacw,↓Zacv,↓Zadb,↓Zaau,↓Zaam,↓Zaan,↓Zaay,↓bxPut,↓Zabs,↓Zabt,↓Zabq,↓Zacz,↓Zada,↓Zadc,↓Zabg,↓Zabe,↓Zabf,Zacx,Zaae,Zabi,Zacb,Zact,Zabm,List.map,List.nil_append,List.append_nil,↓reduceIte,Nat.reduceEqDiff,Nat.reduceLT,dec_F,and_true, *,argF,List.getD_cons_zero,List.getD_cons_succ]
      exact ⟨0,(by first | omega | (constructor <;> intro hh <;> first | trivial | (revert hh; decide) | (exact absurd hh (by decide)))),rfl⟩

theorem cmpDep_runs (ls:List Lg) (a:Option Addr) (c r o:Nat) (ch:Int) (v:Value) (H:Heap) (hL:H.low ≤ H.size) (hl:SlG H (.slice a ls.length c) ls r o) (i j:Nat) (hi:i < ls.length) (hj:j < ls.length) :
    ∃ z H',Keep H H' ∧ (z < 0 ↔ (ls.getD i default).d < (ls.getD j default).d) ∧ Runs Try.prog S (.fn 57) [tv a ls.length c ch v,.int .i64 (i:Int),.int .i64 (j:Int)] H (.int .i64 z) H':=by
  suffices h:WCall Try.prog S (.fn 57) [tv a ls.length c ch v,.int .i64 (i:Int),.int .i64 (j:Int)] H (fun u H' => ∃ z,Keep H H' ∧ (z < 0 ↔ (ls.getD i default).d < (ls.getD j default).d) ∧ u = .int .i64 z) by
    obtain ⟨_,H',hr,z,hk,h,rfl⟩:=h; exact ⟨z,H',hk,h,hr⟩
  obtain ⟨H1,e1,hK1,r3,r0,r1,r2⟩:=boxT H a ls.length c ch v;obtain ⟨q,hix,_,_,_,g2,_⟩:=SlG_at (hl.keep hK1) hi;obtain ⟨q',hix',_,_,_,g2',_⟩:=SlG_at (hl.keep hK1) hj;have hL1:=hK1.low hL;obtain ⟨z,hz,hR⟩:=cmpC_runs hS (ls.getD i default).d (ls.getD j default).d (H1.relow H1.size);have f1:=hR.bx;clear hR hl;refine Zaba Try.func57 rfl (Nat.le_of_ble_eq_true rfl) (hS.no rfl _ _) ?_
  rw [Try.ntmps57,Try.results57]
  repeat' (first | simp only [↓Zabv,↓Zabx,↓Zabz,↓Zaby,↓Zacw,↓Zacv,↓Zaco,↓Zaak,↓Zacj,↓sxDL_assign,↓Zaci,↓Zacg,↓Zach,↓Zacn,↓Zadb,↓Zaau,↓Zaam,↓bxOp_box,↓Zaat,↓Zaaq,↓Zaar,↓Zaay,↓bxPut,↓Zabs,↓Zabq,↓Zacz,↓Zada,↓Zadc,↓Zabg,↓Zabe,↓Zabf,Zacx,Zacb,Zabm,List.map,List.nil_append,List.append_nil,↓reduceIte,Nat.reduceEqDiff,Nat.reduceLT,true_and,Zaab,Nat.add_zero,one1,Option.bind_some, *,argF,List.getD_cons_zero,List.getD_cons_succ,Zabb,tv,faT0,faG2,ldLs,ldC,one1] | (with_reducible first | refine Zacd (by assumption) (by decide +kernel) ?_ | refine Zacc (by decide +kernel) ?_ | refine Zacm (by decide +kernel) ?_ | refine Zacf ?_))
  exact ⟨z,hz,rfl⟩
end Go.Proofs.Yteechkbnccpicaa

namespace Go.Proofs.Yteechkbnccpicaa
open Go Go.AM
set_option maxRecDepth 10000

theorem alT (H:Heap):aAlloc Try.prog H 64 = some (.pointer (some ⟨H.size,0,none⟩),H.newExact [.slice none 0 0,.int .i64 0,.slice none 0 0] 64):=by kernel_rfl
theorem bdT (a:Option Addr) (n c:Nat) (ch:Int) (a2:Option Addr) (n2 c2:Nat):aBuild Try.prog 64 [(0,.slice a n c),(1,.int .i64 ch),(2,.slice a2 n2 c2)] = some (.agg ⟨[.slice a n c,.int .i64 ch,.slice a2 n2 c2]⟩):=by kernel_rfl
theorem infoT:∃ i,Try.prog.info? 64 = some i ∧ i.size = 3:=Option.map_eq_some_iff.1 (show (Try.prog.info? 64).map (·.size) = some 3 by kernel_rfl)
theorem mkI (H:Heap) {l:Int} (h0:0 ≤ l) (h1:l ≤ 268435456):aMakeSlice Try.prog H 25 (.int .i64 l) (.int .i64 l) = some (.slice (some ⟨H.size,0,none⟩) l.toNat l.toNat,H.newExact ((List.replicate l.toNat (0:Int)).map fun z => .int .i64 z) 3):=by
  have h2:=makeSlice_eq (P:=Try.prog) (t:=25) (e:=3) (inf:=Try.t3) (z:=.int .i64 0) Try.underlying25 (by kernel_rfl) (by kernel_rfl) rfl (by kernel_rfl) (of_decide_eq_true (by kernel_rfl)) H .i64 .i64 h0 h1
  rw [h2];have h3:Try.t3.size = 1:=by kernel_rfl
  rw [h3,Nat.mul_one,List.map_replicate];rfl
theorem stI {H:Heap} {r:Nat} {w:List Int} (h:Own H r 3 (w.map fun z => .int .i64 z)) (z:Int) {o:Nat} (ho:o < w.length) :
    ∃ H2,aStore Try.prog H 3 (.pointer (some ⟨r,o,none⟩)) (.int .i64 z) = some H2 ∧ Own H2 r 3 ((w.set o z).map fun z => .int .i64 z) ∧ KeepX r H H2 ∧ H2.size = H.size:=by
  obtain ⟨i,hi,hs⟩:=infoI;obtain ⟨H2,h1,h2,h3,h4⟩:=h.storeX (t:=3) hi (v:=.int .i64 z) (new:=[.int .i64 z]) rfl (hs.trans rfl) rfl (o:=o) (by rw [List.length_map]; exact ho)
  rw [splice_map ho] at h2;exact ⟨H2,h1,h2,h3,h4⟩
theorem flat_int (w:List Int):flat celInt w.toArray = w.map fun z => .int .i64 z:=by
  unfold flat;simp only []
  induction w with
  | nil => rfl
  | cons x w ih => rw [List.flatMap_cons,ih]; rfl

def ltD (ls:List Lg) (x y:Int):Bool:=decide ((ls.getD x.toNat default).d < (ls.getD y.toNat default).d)
theorem swoD (ls:List Lg):Sort.SWO (ltD ls) where
  irrefl:=fun x => by simp [ltD]
  trans:=fun x y z h1 h2 => by simp only [ltD,decide_eq_true_eq] at *; omega
  ntrans:=fun x y z h1 h2 => by simp only [ltD,decide_eq_false_iff_not] at *; omega
def InL (ls:List Lg) (z:Int):Prop:=∃ j:Nat,z = (j:Int) ∧ j < ls.length
def PostT (ls:List Lg) (a:Option Addr) (c:Nat) (ch:Int) (H:Heap) (u:Value) (H':Heap):Prop:=
  ∃ (r0:Nat) (d R:Array Int),u = tv a ls.length c ch (.slice (some ⟨r0,0,none⟩) ls.length ls.length) ∧ Keep H H' ∧ Own H' r0 3 (R.toList.map fun z => .int .i64 z) ∧ H.size ≤ r0 ∧ R.size = ls.length ∧
    AllI (InL ls) R ∧ d.size = ls.length ∧ (∀ j,j < ls.length → d[j]! = (j:Int)) ∧ Sort.PermIn 0 ls.length d R ∧ Sort.SortedIn (ltD ls) 0 ls.length R

variable {S:AM.Sys} (hS:Only S 11)
include hS

theorem ordered (ls:List Lg) (a:Option Addr) (c r o:Nat) (ch:Int) (v:Value) (H H5:Heap) (r1 r2:Nat) (Z T:List Value) (w:List Int) (hL:H.low ≤ H.size) (hg:Grp H) (hl:SlG H (.slice a ls.length c) ls r o) (h60:ls.length ≤ 60)
    (hK:Keep H H5) (oz:Own H5 H.size 64 Z) (ot:Own H5 r2 64 T) (ow:Own H5 r1 3 (w.map fun z => .int .i64 z)) (h1:H.size + 1 ≤ r1) (h2:r1 + 1 ≤ r2) (hwl:w.length = ls.length) (hw:∀ j,j < ls.length → w.getD j 0 = (j:Int)) :
    ∃ u H6 R,Runs Try.prog S (.fn 56) [.slice (some ⟨r1,0,none⟩) ls.length ls.length,.func (.func 57) ⟨[tv a ls.length c ch v]⟩ ⟨[]⟩] H5 u H6 ∧ Keep H H6 ∧ Own H6 H.size 64 Z ∧ Own H6 r2 64 T ∧
      Own H6 r1 3 (R.toList.map fun z => .int .i64 z) ∧ R.size = ls.length ∧ AllI (InL ls) R ∧ w.toArray.size = ls.length ∧ (∀ j,j < ls.length → w.toArray[j]! = (j:Int)) ∧ Sort.PermIn 0 ls.length w.toArray R ∧ Sort.SortedIn (ltD ls) 0 ls.length R:=by
  have hsz:w.toArray.size = ls.length:=by simpa using hwl
  have hat:∀ j,j < ls.length → w.toArray[j]! = (j:Int):=fun j hj => by
    rw [← hw j hj,getElem!_pos _ j (by omega)]
    rw [List.getD_eq_getElem?_getD,List.getElem?_eq_getElem (by omega)]
    rfl
  obtain ⟨HB,hHB⟩:∃ HB:Base,HB = { toHeap:=H,side:=[(H.size,64,Z),(r2,64,T)] }:=⟨_,rfl⟩;have hb:HB.toHeap = H:=by rw [hHB]
  have hbs:HB.side = [(H.size,64,Z),(r2,64,T)]:=by rw [hHB]
  have hc:CmpI S 57 [tv a ls.length c ch v] [] HB (InL ls) (ltD ls):=fun Hx x y hk hx hy => by
    obtain ⟨i,rfl,hi⟩:=hx;obtain ⟨j,rfl,hj⟩:=hy;rw [hb] at hk;obtain ⟨z,H2,hk2,hz,hR⟩:=cmpDep_runs hS ls a c r o ch v Hx (hk.low hL) (hl.keep hk) i j hi hj;exact ⟨z,H2,hk2,by rw [hz]; simp [ltD],hR⟩
  have hd:SaI HB H5 r1 r1 true w.toArray:=by
    show Arr HB H5 r1 r1 _ _ true (flat celInt w.toArray);rw [flat_int];refine Arr.own (by rw [hb]; exact hK) (by rw [hb]; exact hg) (by rw [hb]; omega) (fun x hx => ?_) ow
    rw [hbs] at hx;rcases List.mem_cons.1 hx with rfl | hx
    · exact ⟨oz,by show H.size ≠ r1; omega⟩
    · rcases List.mem_cons.1 hx with rfl | hx
      · exact ⟨ot,by show r2 ≠ r1; omega⟩
      · cases hx
  obtain ⟨u,H6,hR,R,p1,p2,p3,p4,p5,p6⟩:=sortI_runs hS hc (by rw [hb]; exact hL) (c:=ls.length) (swoD ls) w.toArray H5 (by omega) hd (fun i hi => ⟨i,hat i (by omega),by omega⟩)
  rw [hsz] at hR p1 p2 p4;have hs1:=p5.side (H.size,64,Z) (by rw [hbs]; exact List.mem_cons_self ..)
  have hs2:=p5.side (r2,64,T) (by rw [hbs]; exact List.mem_cons_of_mem _ (List.mem_cons_self ..))
  have ho:Own H6 r1 3 (flat celInt R):=p5.toOwn;have hk6:=p5.keep;rw [hb] at hk6;refine ⟨u,H6,R,hR,hk6,hs1.1,hs2.1,?_,p4,p3,hsz,hat,p1,p2⟩;rw [← flat_int];exact ho

set_option maxHeartbeats 4000000 in
theorem newTT_runs (ls:List Lg) (a:Option Addr) (c r o:Nat) (ch:Int) (H:Heap) (hL:H.low ≤ H.size) (hg:Grp H) (hl:SlG H (.slice a ls.length c) ls r o) (h60:ls.length ≤ 60) :
    ∃ u H',Runs Try.prog S (.fn 35) [.slice a ls.length c,.int .i64 ch] H u H' ∧ PostT ls a c ch H u H':=by
  suffices h:WCall Try.prog S (.fn 35) [.slice a ls.length c,.int .i64 ch] H (fun u H' => PostT ls a c ch H u H') by
    obtain ⟨u,H',hr,h⟩:=h; exact ⟨u,H',hr,h⟩
  have hmx:Go.maxLen = 9223372036854775807:=rfl;have al1:=alT H;have k1:=Keep.newExact H [.slice none 0 0,.int .i64 0,.slice none 0 0] 64;have o1:=Own.new H [.slice none 0 0,.int .i64 0,.slice none 0 0] 64;have z1:=size_new H [.slice none 0 0,.int .i64 0,.slice none 0 0] 64;obtain ⟨H1,hH1⟩:∃ H1,H1 = H.newExact [.slice none 0 0,.int .i64 0,.slice none 0 0] 64:=⟨_,rfl⟩;rw [← hH1] at al1 k1 o1 z1;have mk:=mkI H1 (l:=(ls.length:Int)) (by omega) (by omega)
  rw [Int.toNat_natCast] at mk;have k2:=Keep.newExact H1 ((List.replicate ls.length (0:Int)).map fun z => .int .i64 z) 3
  have o2:=Own.new H1 ((List.replicate ls.length (0:Int)).map fun z => .int .i64 z) 3
  have z2:=size_new H1 ((List.replicate ls.length (0:Int)).map fun z => .int .i64 z) 3
  obtain ⟨H2,hH2⟩:∃ H2,H2 = H1.newExact ((List.replicate ls.length (0:Int)).map fun z => .int .i64 z) 3:=⟨_,rfl⟩
  rw [← hH2] at mk k2 o2 z2;have al3:=alT H2;have k3:=Keep.newExact H2 [.slice none 0 0,.int .i64 0,.slice none 0 0] 64;have o3:=Own.new H2 [.slice none 0 0,.int .i64 0,.slice none 0 0] 64;have z3:=size_new H2 [.slice none 0 0,.int .i64 0,.slice none 0 0] 64;obtain ⟨H3,hH3⟩:∃ H3,H3 = H2.newExact [.slice none 0 0,.int .i64 0,.slice none 0 0] 64:=⟨_,rfl⟩;rw [← hH3] at al3 k3 o3 z3;obtain ⟨iT,hiT,hsT⟩:=infoT;have hiT2:=hiT;have hsT2:=hsT;obtain ⟨H4,s4,o4,k4,z4⟩:=o3.storeX (o:=0) (t:=64) hiT (v:=.agg ⟨[.slice a ls.length c,.int .i64 ch,.slice (some ⟨H1.size,0,none⟩) ls.length ls.length]⟩) (new:=[.slice a ls.length c,.int .i64 ch,.slice (some ⟨H1.size,0,none⟩) ls.length ls.length]) rfl hsT rfl (by simp)
  have o4:Own H4 H2.size 64 [.slice a ls.length c,.int .i64 ch,.slice (some ⟨H1.size,0,none⟩) ls.length ls.length]:=by simpa [splice] using o4
  have hk4:Keep H H4:=k4.base H hg ((k1.trans k2).trans k3) (by omega)
  have p1:Own H4 H.size 64 [.slice none 0 0,.int .i64 0,.slice none 0 0]:=⟨(k4.row H.size _ (by omega) ((o1.keep k2).keep k3).lt ((o1.keep k2).keep k3).get).1,by rw [z4]; exact ((o1.keep k2).keep k3).lt⟩
  have p2:Own H4 H1.size 3 ((List.replicate ls.length (0:Int)).map fun z => .int .i64 z):=⟨(k4.row H1.size _ (by omega) (o2.keep k3).lt (o2.keep k3).get).1,by rw [z4]; exact (o2.keep k3).lt⟩
  have rd4:H4.read H2.size 2 1 = some [.slice (some ⟨H1.size,0,none⟩) ls.length ls.length]:=by
    have:=o4.read (o:=2) (n:=1) (by simp)
    simpa using this
  have z1a:H1.size = H.size + 1:=z1;have z2a:H2.size = H.size + 2:=by omega
  clear k1 k2 k3 k4 o1 o2 o3 z3 z4 hH1 hH2 hH3 z1 z2 hiT hsT;refine Zaba Try.func35 rfl (Nat.le_of_ble_eq_true rfl) (hS.no rfl _ _) ?_
  rw [Try.ntmps35,Try.results35];have q1:H.size + 1 ≤ H1.size:=by omega
  have q2:H1.size ≤ H.size + 1:=by omega
  have q3:H.size + 2 ≤ H2.size:=by omega
  have q4:H2.size ≤ H.size + 2:=by omega
  clear z1a z2a
  repeat' simp only [↓Zabx,↓Zabz,↓Zaaj,↓Zabu,↓Zaby,↓Zacw,↓Zacv,↓Zadb,↓Zaau,↓Zaal,↓bxOp_build,↓Zaat,↓Zaaw,↓bxOp_makeFunc,↓bxOp_makeSlice,↓Zaaq,↓Zaay,↓Zaas,↓Zacy,↓bxPut,↓Zabs,↓Zabq,↓Zacz,↓bxRes_cell,↓Zadc,↓Zabg,↓Zabe,↓Zabf,Zacx,Zacb,Zabm,List.map,List.nil_append,↓reduceIte,Nat.reduceEqDiff,Nat.reduceLT,one1,Option.bind_some, *,argF,List.getD_cons_zero,List.getD_cons_succ,lenG,lenIs,bdT,faT2,ldIs,one1]
  have hml:ls.length ≤ Go.maxLen:=by omega
  have hown:∀ {r:Nat} {e:TypeId} {cs:List Value} {A B:Heap},Own A r e cs → KeepX H1.size A B → r ≠ H1.size → Own B r e cs:=fun ho hx hne => ⟨(hx.row _ _ hne ho.lt ho.get).1,Nat.lt_of_lt_of_le ho.lt hx.size⟩
  refine sxL_of (fun m ρ H5 => ∃ (k:Nat) (w:List Int),m = ls.length - k ∧ k ≤ ls.length ∧ Own H5 H1.size 3 (w.map fun z => .int .i64 z) ∧ w.length = ls.length ∧ (∀ j,j < k → w.getD j 0 = (j:Int)) ∧ KeepX H1.size H4 H5 ∧
      ρ 4 = .pointer (some ⟨H.size,0,none⟩) ∧ ρ 5 = .pointer (some ⟨H2.size,0,none⟩) ∧ ρ 15 = .int .i64 (ls.length:Int) ∧ ρ 16 = .int .i64 (k:Int))
    ⟨0,List.replicate ls.length 0,rfl,Nat.zero_le _,p2,List.length_replicate,fun j hj => absurd hj (Nat.not_lt_zero j),KeepX.refl _ _,rfl,rfl,rfl,rfl⟩ ?_
  clear mk al3 s4 rd4;rintro m ρ H5 ⟨k,w,rfl,hk,ow,hwl,hall,hx,e4,e5,e15,e16⟩;have ot:=hown o4 hx (by omega)
  have oz:=hown p1 hx (by omega)
  have hk5:=hx.base H hg hk4 (by omega)
  have rd:H5.read H2.size 2 1 = some [.slice (some ⟨H1.size,0,none⟩) ls.length ls.length]:=ot.read (o:=2) (n:=1) (by simp)
  have rd3:H5.read H2.size 0 3 = some [.slice a ls.length c,.int .i64 ch,.slice (some ⟨H1.size,0,none⟩) ls.length ls.length]:=ot.read (o:=0) (n:=3) (by simp)
  by_cases hlt:k < ls.length
  · have hlt':(k:Int) < (ls.length:Int):=by omega
    have hw:=wrap_succ hlt hml;have hix:Zaaa Try.prog 25 (.slice (some ⟨H1.size,0,none⟩) ls.length ls.length) (.int .i64 (k:Int)) = some (.pointer (some ⟨H1.size,k,none⟩)):=by
      rw [ixIs,if_pos ⟨by omega,hlt'⟩,Int.toNat_natCast,Nat.mul_one,Nat.zero_add]
    have hst:=stI ow (k:Int) (o:=k) (by omega)
    obtain ⟨H6,s6,o6,k6,z6⟩:=hst;have hx6:=hx.trans k6;clear hx ow oz ot hk5 rd3 k6 o4 p1 p2 hk4 hl
    repeat' simp only [↓Zaca,↓Zabx,↓Zabz,↓Zaai,↓Zabu,↓Zabw,↓Zacw,↓Zacv,↓Zadb,↓Zaau,↓Zaam,↓Zaat,↓Zaaw,↓Zaan,↓Zaaq,↓Zaar,↓Zacy,↓bxPut,↓Zabs,↓Zabr,↓Zaag,↓Zaaf,↓Zabk,↓Zabj,↓Zadc,↓Zabg,↓Zabe,Zacx,Zaae,Zabi,Zacu,↓reduceIte,Nat.reduceEqDiff,Nat.reduceLT,dec_T,true_and,one1,Option.bind_some, *,faT2,ldIs,one1]
    exact ⟨ls.length - (k + 1),by omega,k + 1,w.set k (k:Int),rfl,by omega,o6,by rw [List.length_set]; exact hwl,fun j hj => by
      rcases Nat.lt_or_ge j k with h | h
      · rw [List.getD_eq_getElem?_getD,List.getElem?_set_ne (by omega),← List.getD_eq_getElem?_getD]; exact hall j h
      · have:j = k:=by omega
        subst this
        rw [List.getD_eq_getElem?_getD,List.getElem?_set_self (by omega)]; rfl,rfl⟩
  · have hlt':¬ (k:Int) < (ls.length:Int):=by omega
    have hord:=ordered hS ls a c r o ch (.slice (some ⟨H1.size,0,none⟩) ls.length ls.length) H H5 H1.size H2.size _ _ w hL hg hl h60 hk5 oz ot ow q1 (by omega) hwl (fun j hj => hall j (by omega))
    obtain ⟨u,H6,R,hR,hk6,oz6,ot6,oR,hRs,hRV,hds,hdj,hpm,hso⟩:=hord;have f1:=hR.bx;unfold tv at f1;have ny:notYield (.func 57) = true:=rfl;have rd6:H6.read H2.size 0 3 = some [.slice a ls.length c,.int .i64 ch,.slice (some ⟨H1.size,0,none⟩) ls.length ls.length]:=ot6.read (o:=0) (n:=3) (by simp)
    have hsx:=oz6.storeX (o:=0) (t:=64) hiT2 (v:=.agg ⟨[.slice a ls.length c,.int .i64 ch,.slice (some ⟨H1.size,0,none⟩) ls.length ls.length]⟩) (new:=[.slice a ls.length c,.int .i64 ch,.slice (some ⟨H1.size,0,none⟩) ls.length ls.length]) rfl hsT2 rfl (by simp)
    obtain ⟨H7,s7,o7,k7,z7⟩:=hsx;have o7:Own H7 H.size 64 [.slice a ls.length c,.int .i64 ch,.slice (some ⟨H1.size,0,none⟩) ls.length ls.length]:=by simpa [splice] using o7
    have rd7:H7.read H.size 0 3 = some [.slice a ls.length c,.int .i64 ch,.slice (some ⟨H1.size,0,none⟩) ls.length ls.length]:=o7.read (o:=0) (n:=3) (by simp)
    have hpost:PostT ls a c ch H (.agg ⟨[.slice a ls.length c,.int .i64 ch,.slice (some ⟨H1.size,0,none⟩) ls.length ls.length]⟩) H7:=
      ⟨H1.size,w.toArray,R,rfl,k7.base H hg hk6 (Nat.le_refl _),⟨(k7.row _ _ (by omega) oR.lt oR.get).1,Nat.lt_of_lt_of_le oR.lt k7.size⟩,by omega,hRs,hRV,hds,hdj,hpm,hso⟩
    clear hx ow oz ot hk5 hR hk6 oz6 ot6 oR hRs hRV hds hdj hpm hso o7 k7 z7 o4 p1 p2 hk4 hl
    repeat' simp only [↓Zaca,↓Zabx,↓Zabz,↓Zaai,↓Zabu,↓Zabw,↓Zacw,↓Zacv,↓Zadb,↓Zaau,↓Zaam,↓Zaat,↓Zaaw,↓Zaan,↓Zaaq,↓Zaar,↓Zacy,↓bxPut,↓Zabs,↓Zabr,↓Zaag,↓Zaaf,↓Zabk,↓Zabj,↓Zadc,↓Zabg,↓Zabe,Zacx,Zaae,Zabi,Zact,List.map,List.append_nil,↓reduceIte,Nat.reduceEqDiff,Nat.reduceLT,dec_F,and_self,one1,Option.bind_some,Option.map_some, *,faT2,ldIs,one1,ldTt]
end Go.Proofs.Yteechkbnccpicaa
