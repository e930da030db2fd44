/- A timetable's profile. -/
import Derived.Test.YteechkbnccpicaaL2
import Derived.Test.YteechkbnccpicaaT6
set_option linter.unusedVariables false
set_option linter.unusedSimpArgs false
set_option linter.unusedSectionVars false

namespace Go.Proofs.Yteechkbnccpicaa
open Go Go.AM
set_option maxRecDepth 10000

structure TT (ls:List Lg) (a:Option Addr) (c r o:Nat) (ch:Int) (ro:Nat) (R:Array Int) (H:Heap):Prop where
  legs:SlG H (.slice a ls.length c) ls r o
  few:ls.length ≤ 60
  ord:Own H ro 3 (R.toList.map fun z => .int .i64 z)
  ok:OrdOk ls R
  leg:LOk ls ch
section
variable {ls:List Lg} {a:Option Addr} {c r o:Nat} {ch:Int} {ro:Nat} {R:Array Int} {H H':Heap}
theorem TT.keep (h:TT ls a c r o ch ro R H) (hk:Keep H H'):TT ls a c r o ch ro R H':=⟨h.legs.keep hk,h.few,h.ord.keep hk,h.ok,h.leg⟩
theorem TT.fit (h:TT ls a c r o ch ro R H):∀ i,i < ls.length → Fit ch (ls.getD i default):=fun i hi => by
  have h1:=h.leg.leg i hi;have h2:=h.leg.ch;exact ⟨by omega,by omega⟩
end
def tvo (ls:List Lg) (a:Option Addr) (c:Nat) (ch:Int) (ro:Nat):Value:=tv a ls.length c ch (.slice (some ⟨ro,0,none⟩) ls.length ls.length)
def JP (ls:List Lg) (ch fr to:Int) (d a:Int):Prop:=∃ i r,Ch ls ch i r ∧ (ls.getD i default).f = fr ∧ (ls.getD i default).d = d ∧ (ls.getD (lastN i r) default).t = to ∧ (ls.getD (lastN i r) default).a = a
def woA (to by':Int) (x:Lg):Int:=if x.t = to ∧ x.a ≤ by' then x.a else 10060
def woC (to by':Int) (x:Lg):Int:=if x.t = to ∧ x.a ≤ by' then 1 else 10060
theorem alW (H:Heap):aAlloc Try.prog H 72 = some (.pointer (some ⟨H.size,0,none⟩),H.newExact [.int .i64 0,.int .i64 0,.int .i64 0,.int .i64 0] 72):=by kernel_rfl
theorem infoW:∃ i,Try.prog.info? 72 = some i ∧ i.size = 4:=Option.map_eq_some_iff.1 (show (Try.prog.info? 72).map (·.size) = some 4 by kernel_rfl)
theorem newW (H:Heap) (x y z w:Int):∃ H2,aStore Try.prog (H.newExact [.int .i64 0,.int .i64 0,.int .i64 0,.int .i64 0] 72) 72 (.pointer (some ⟨H.size,0,none⟩)) (.agg ⟨[.int .i64 x,.int .i64 y,.int .i64 z,.int .i64 w]⟩) = some H2 ∧ Keep H H2 ∧ H.size < H2.size ∧ H2.read H.size 0 4 = some [.int .i64 x,.int .i64 y,.int .i64 z,.int .i64 w]:=by
  obtain ⟨i,hi,hsz⟩:=infoW;obtain ⟨H2,h1,h2,h3,h4,h5⟩:=(Own.new H [.int .i64 0,.int .i64 0,.int .i64 0,.int .i64 0] 72).store (t:=72) hi (v:=.agg ⟨[.int .i64 x,.int .i64 y,.int .i64 z,.int .i64 w]⟩) (new:=[.int .i64 x,.int .i64 y,.int .i64 z,.int .i64 w]) rfl (by rw [hsz]; rfl) rfl (o:=0) (by show 0 + 4 ≤ 4; decide)
  have h2:Own H2 H.size 72 [.int .i64 x,.int .i64 y,.int .i64 z,.int .i64 w]:=h2;exact ⟨H2,h1,h5 H (Keep.newExact _ _ _) (Nat.le_refl _),h2.lt,h2.read (o:=0) (n:=4) (by show 0 + 4 ≤ 4; decide)⟩
def PtsTo (ls:List Lg) (fr:Int) (d:Array Int) (k:Nat) (x y:Int):Prop:=∃ i,i < k ∧ d[i]! < 10060 ∧ (ls.getD i default).f = fr ∧ x = (ls.getD i default).d ∧ y = d[i]!
theorem PtsTo.succ {ls:List Lg} {fr:Int} {d:Array Int} {k:Nat} {x y:Int}:PtsTo ls fr d (k + 1) x y ↔ PtsTo ls fr d k x y ∨ (d[k]! < 10060 ∧ (ls.getD k default).f = fr ∧ x = (ls.getD k default).d ∧ y = d[k]!):=by
  constructor
  · rintro ⟨i,hi,h⟩;rcases Nat.lt_or_ge i k with h1 | h1
    · exact .inl ⟨i,h1,h⟩
    · rw [show i = k by omega] at h; exact .inr h
  · rintro (⟨i,hi,h⟩ | h)
    · exact ⟨i,by omega,h⟩
    · exact ⟨k,Nat.lt_succ_self k,h⟩
theorem best_jp {ls:List Lg} {ch fr to:Int} {d:Array Int} {R:List Pt} (hk:LOk ls ch) (hd:∀ i,i < ls.length → LW ls ch (woA to 10000) 0 i d[i]!) (h:BestOf (PtsTo ls fr d ls.length) R):BestOf (JP ls ch fr to) R where
  mem:=fun p hp => by
    obtain ⟨i,hi,h1,h2,h3,h4⟩:=h.mem p hp;obtain ⟨k1,r,k2,k3⟩:=hd i hi;rw [Int.zero_mul,Int.add_zero] at k3;unfold woA at k3
    by_cases hc:(ls.getD (lastN i r) default).t = to ∧ (ls.getD (lastN i r) default).a ≤ 10000
    · rw [if_pos hc] at k3;exact ⟨i,r,k2,h2,h3.symm,hc.1,by omega⟩
    · rw [if_neg hc] at k3; omega
  asc:=h.asc
  dom:=fun x y ⟨i,r,h1,h2,h3,h4,h5⟩ => by
    have k1:=(hd i h1.lt).1 r h1;rw [Int.zero_mul,Int.add_zero] at k1;unfold woA at k1;have hl:=hk.leg _ h1.last_lt;rw [if_pos ⟨h4,hl.2.2⟩] at k1;obtain ⟨p,hp,p1,p2⟩:=h.dom _ _ ⟨i,h1.lt,by omega,h2,rfl,rfl⟩
    exact ⟨p,hp,by omega,by omega⟩

variable {S:AM.Sys} (hS:Only S 11)
include hS

theorem wArr_runs (fr to at' by':Int):WoOk S 62 [wv fr to at' by'] [] (woA to by'):=fun H x hL => by
  suffices h:WCall Try.prog S (.fn 62) [wv fr to at' by',.agg ⟨lc x⟩] H (fun u H' => u = .int .i64 (woA to by' x) ∧ Keep H H') by
    obtain ⟨_,H',hr,rfl,hk⟩:=h; exact ⟨H',hk,hr⟩
  obtain ⟨H1,e1,hK1,w4,_,_,_,_⟩:=boxW H fr to at' by'
  obtain ⟨H2,e2,hK2,g5,_,_,_,g3,_⟩:=boxG H1 x;have hz:H.size < H1.size:=by rw [← e1,size_new]; omega
  have hz2:H1.size < H2.size:=by rw [← e2,size_new]; omega
  have w4':=hK2.read hz w4;obtain ⟨H3,hK3,hR⟩:=ends_runs hS fr to at' by' x H2
  have g3':=hK3.read hz2 g3;have f1:=hR.bx;have hK:=(hK1.trans hK2).trans hK3;obtain ⟨y,hy⟩:∃ y,y = woA to by' x:=⟨_,rfl⟩
  rw [← hy];unfold woA at hy;unfold wv at f1 ⊢;clear hR hz hz2 w4 g3;refine Zaba Try.func62 rfl (Nat.le_of_ble_eq_true rfl) (hS.no rfl _ _) ?_
  rw [Try.ntmps62,Try.results62]
  by_cases hc:x.t = to ∧ x.a ≤ by'
  · rw [if_pos hc] at hy;rw [decide_eq_true hc] at f1;subst hy;clear hc
    repeat' simp only [↓Zaca,↓Zabx,↓Zabz,↓Zaai,↓Zaby,↓Zacw,↓Zacv,↓Zadb,↓Zaam,↓bxOp_box,↓Zaat,↓Zaaq,↓Zaay,↓bxPut,↓Zabs,↓Zabt,↓Zabq,↓Zacz,↓Zada,↓Zadc,↓Zabg,↓Zabe,↓Zabf,Zacx,Zacb,Zacu,Zabm,List.map,List.nil_append,List.append_nil,↓reduceIte,Nat.reduceEqDiff,Nat.reduceLT,and_self,one1,Option.bind_some,Option.map_some, *,argF,List.getD_cons_zero,List.getD_cons_succ,Zabb,ldW,ldG,faG3,ldC,one1]
  · rw [if_neg hc] at hy;rw [decide_eq_false hc] at f1;subst hy;clear hc
    repeat' simp only [↓Zaca,↓Zabx,↓Zabz,↓Zaai,↓Zaby,↓Zacw,↓Zacv,↓Zadb,↓Zaam,↓bxOp_box,↓Zaat,↓Zaaq,↓Zaay,↓bxPut,↓Zabs,↓Zabt,↓Zabq,↓Zacz,↓Zada,↓Zadc,↓Zabg,↓Zabe,↓Zabf,Zacx,Zacb,Zact,Zabm,List.map,List.nil_append,List.append_nil,↓reduceIte,Nat.reduceEqDiff,Nat.reduceLT,and_self,Option.map_some, *,argF,List.getD_cons_zero,List.getD_cons_succ,Zabb,ldW,ldG]
theorem wCnt_runs (fr to at' by':Int):WoOk S 64 [wv fr to at' by'] [] (woC to by'):=fun H x hL => by
  suffices h:WCall Try.prog S (.fn 64) [wv fr to at' by',.agg ⟨lc x⟩] H (fun u H' => u = .int .i64 (woC to by' x) ∧ Keep H H') by
    obtain ⟨_,H',hr,rfl,hk⟩:=h; exact ⟨H',hk,hr⟩
  obtain ⟨H1,e1,hK1,w4,_,_,_,_⟩:=boxW H fr to at' by'
  obtain ⟨H2,e2,hK2,g5,_⟩:=boxG H1 x;have hz:H.size < H1.size:=by rw [← e1,size_new]; omega
  have w4':=hK2.read hz w4;obtain ⟨H3,hK3,hR⟩:=ends_runs hS fr to at' by' x H2
  have f1:=hR.bx;have hK:=(hK1.trans hK2).trans hK3;obtain ⟨y,hy⟩:∃ y,y = woC to by' x:=⟨_,rfl⟩
  rw [← hy];unfold woC at hy;unfold wv at f1 ⊢;clear hR hz w4;refine Zaba Try.func64 rfl (Nat.le_of_ble_eq_true rfl) (hS.no rfl _ _) ?_
  rw [Try.ntmps64,Try.results64]
  by_cases hc:x.t = to ∧ x.a ≤ by'
  · rw [if_pos hc] at hy;rw [decide_eq_true hc] at f1;subst hy;clear hc
    repeat' simp only [↓Zaca,↓Zabx,↓Zabz,↓Zaai,↓Zaby,↓Zacw,↓Zacv,↓Zadb,↓Zaam,↓bxOp_box,↓Zaat,↓Zaay,↓bxPut,↓Zabs,↓Zabt,↓Zabq,↓Zacz,↓Zada,↓Zadc,↓Zabg,↓Zabe,↓Zabf,Zacx,Zacb,Zacu,Zabm,List.map,List.nil_append,List.append_nil,↓reduceIte,Nat.reduceEqDiff,Nat.reduceLT,and_self,Option.map_some, *,argF,List.getD_cons_zero,List.getD_cons_succ,Zabb,ldW,ldG]
  · rw [if_neg hc] at hy;rw [decide_eq_false hc] at f1;subst hy;clear hc
    repeat' simp only [↓Zaca,↓Zabx,↓Zabz,↓Zaai,↓Zaby,↓Zacw,↓Zacv,↓Zadb,↓Zaam,↓bxOp_box,↓Zaat,↓Zaay,↓bxPut,↓Zabs,↓Zabt,↓Zabq,↓Zacz,↓Zada,↓Zadc,↓Zabg,↓Zabe,↓Zabf,Zacx,Zacb,Zact,Zabm,List.map,List.nil_append,List.append_nil,↓reduceIte,Nat.reduceEqDiff,Nat.reduceLT,and_self,Option.map_some, *,argF,List.getD_cons_zero,List.getD_cons_succ,Zabb,ldW,ldG]

def PostP (ls:List Lg) (ch fr to:Int) (H:Heap) (u:Value) (H':Heap):Prop:=∃ Q:List Pt,PtsIn H H' u Q.toArray ∧ Q.length ≤ ls.length ∧ (fr = to → Q = []) ∧ (fr ≠ to → BestOf (JP ls ch fr to) Q)

set_option maxHeartbeats 4000000 in
theorem prof_runs {ls:List Lg} {a:Option Addr} {c r o:Nat} {ch:Int} {ro:Nat} {R:Array Int} {H:Heap} (tt:TT ls a c r o ch ro R H) (fr to:Int) (hL:H.low ≤ H.size) (hg:Grp H) :
    ∃ u H',Runs Try.prog S (.fn 37) [tvo ls a c ch ro,.int .i64 fr,.int .i64 to] H u H' ∧ PostP ls ch fr to H u H':=by
  suffices h:WCall Try.prog S (.fn 37) [tvo ls a c ch ro,.int .i64 fr,.int .i64 to] H (fun u H' => PostP ls ch fr to H u H') by
    obtain ⟨u,H',hr,h⟩:=h; exact ⟨u,H',hr,h⟩
  obtain ⟨H1,e1,hK1,t3,t0,t1,t2⟩:=boxT H a ls.length c ch (.slice (some ⟨ro,0,none⟩) ls.length ls.length);have z1:H.size < H1.size:=by rw [← e1,size_new]; omega
  refine Zaba Try.func37 rfl (Nat.le_of_ble_eq_true rfl) (hS.no rfl _ _) ?_
  rw [Try.ntmps37,Try.results37]
  by_cases hft:fr = to
  · have d1:decide (fr = to) = true:=decide_eq_true hft;have hp:PostP ls ch fr to H (.slice none 0 0) H1:=⟨[],PtsIn.nil hK1 hg,Nat.zero_le _,fun _ => rfl,fun h => absurd hft h⟩
    clear hft tt
    repeat' simp only [↓Zaca,↓Zabx,↓Zabz,↓Zaai,↓Zaaj,↓Zabu,↓Zaby,↓Zacw,↓Zacv,↓Zadb,↓Zaau,↓Zaam,↓Zaal,↓bxOp_box,↓bxOp_build,↓Zaat,↓Zaaw,↓Zaan,↓bxOp_makeFunc,↓Zaay,↓Zaas,↓Zacy,↓bxPut,↓Zabs,↓Zabt,↓Zabq,↓Zacz,↓Zada,↓Zadc,↓Zabg,↓Zabe,↓Zabf,Zacx,Zaae,Zabi,Zacb,Zacu,Zabm,List.nil_append,↓reduceIte,Nat.reduceEqDiff,Nat.reduceLT, *,argF,List.getD_cons_zero,List.getD_cons_succ,tvo,tv,Zabb]
  have d1:decide (fr = to) = false:=decide_eq_false hft;have al2:=alW H1;obtain ⟨H2,s2,hK2,z2,w4⟩:=newW H1 fr to 0 10000;have bw:=bdW fr to 0 10000;have hK02:=hK1.trans hK2;have hlr:=least_runs hS ls a c r o ch ro R 62 [wv fr to 0 10000] [] (woA to 10000) 0 H2 (hK02.low hL) (hK02.grp hg) (tt.keep hK02).legs tt.few (tt.keep hK02).ord tt.ok tt.leg tt.fit (wArr_runs hS fr to 0 10000)
    (fun i hi => by have:=tt.leg.leg i hi; unfold woA; split <;> omega) (by decide)
  obtain ⟨u3,H3,hR3,LR,d,rfl,hK3,hO3,hLR,hdz,hLW⟩:=hlr;have hK03:=hK02.trans hK3;have f3:=hR3.bx;have hL3:=hK03.low hL;have hg3:=hK03.grp hg;have t3':=hK2.read z1 t3;have w4':=hK3.read z2 w4;have z1':H.size < H2.size:=Nat.lt_of_lt_of_le z1 hK2.size;have t0':=hK3.read z1' (hK2.read z1 t0);have z3:H.size < H3.size:=Nat.lt_of_lt_of_le z1' hK3.size;have z4:H1.size < H3.size:=Nat.lt_of_lt_of_le z2 hK3.size;have h60:=tt.few;have ny:notYield (.func 62) = true:=rfl;have hd1:decide (fr = to) = false:=d1;unfold tv wv at f3;clear hR3 t0 t1 t2 t3
  repeat' simp only [↓Zaca,↓Zabx,↓Zabz,↓Zaai,↓Zaaj,↓Zabu,↓Zaby,↓Zacw,↓Zacv,↓Zadb,↓Zaau,↓Zaam,↓Zaal,↓bxOp_box,↓bxOp_build,↓Zaat,↓Zaaw,↓Zaan,↓bxOp_makeFunc,↓Zaay,↓Zaas,↓Zacy,↓bxPut,↓Zabs,↓Zabt,↓Zabq,↓Zacz,↓Zada,↓Zadc,↓Zabg,↓Zabe,↓Zabf,Zacx,Zaae,Zabi,Zacb,Zact,Zabm,List.map,List.nil_append,List.append_nil,↓reduceIte,Nat.reduceEqDiff,Nat.reduceLT,dec_F,true_and,Option.map_some, *,argF,List.getD_cons_zero,List.getD_cons_succ,tvo,tv,Zabb,ldTt,ldW,lenIs]
  clear f3 t3' w4
  refine sxL_of (fun m ρ H5 => ∃ (k:Nat) (lv:Value) (xs:List Pt),m = ls.length - k ∧ k ≤ ls.length ∧ Keep H3 H5 ∧ Grp H5 ∧ LstG stE 40 H3.size H5 lv xs ∧ xs.length ≤ k ∧ (∀ x y,(x,y) ∈ xs ↔ PtsTo ls fr d k x y) ∧
      ρ 3 = .pointer (some ⟨H.size,0,none⟩) ∧ ρ 7 = .pointer (some ⟨H1.size,0,none⟩) ∧ ρ 8 = lv ∧ ρ 20 = .slice (some ⟨LR,0,none⟩) ls.length ls.length ∧ ρ 21 = .int .i64 (ls.length:Int) ∧ ρ 22 = .int .i64 (k:Int))
    ⟨0,.slice none 0 0,[],rfl,Nat.zero_le _,Keep.refl _,hg3,LstG.nil,Nat.le_refl _,(fun x y => ⟨fun h => (by cases h),fun ⟨i,hi,_⟩ => absurd hi (Nat.not_lt_zero i)⟩),rfl,rfl,rfl,rfl,rfl,rfl⟩ ?_
  rintro m ρ H5 ⟨k,lv,xs,rfl,hk,hK5,hg5,hlst,hxl,hmem,e3,e7,e8,e20,e21,e22⟩;have hK05:=hK03.trans hK5;have hL5:=hK05.low hL
  by_cases hlt:k < ls.length
  · have hlt':(k:Int) < (ls.length:Int):=by omega
    have hw:IntKind.i64.wrap ((k:Int) + 1) = ((k + 1:Nat):Int):=by rw [IntWalk.i64_in _ (by omega)]; omega
    have hixl:Zaaa Try.prog 25 (.slice (some ⟨LR,0,none⟩) ls.length ls.length) (.int .i64 (k:Int)) = some (.pointer (some ⟨LR,k,none⟩)):=by
      rw [ixIs,if_pos ⟨by omega,hlt'⟩,Int.toNat_natCast,Nat.mul_one,Nat.zero_add]
    have hrl:H5.read LR k 1 = some [.int .i64 d[k]!]:=by
      have h1:=(hO3.keep hK5).read (o:=k) (n:=1) (by rw [flat_len]; show k + 1 ≤ d.size * 1; omega)
      rw [h1];have h2:=flat_at (C:=celInt) d (i:=k) (by omega)
      have h2:((flat celInt d).drop (k * 1)).take 1 = [.int .i64 d[k]!]:=h2;rw [Nat.mul_one] at h2;rw [h2]
    have hrng:=(hLW k hlt).rng hlt (fun i hi => by have:=tt.leg.leg i hi; unfold woA; split <;> omega) (Int.le_refl 0)
    have hob:=SlG_at (tt.legs.keep hK05) hlt;obtain ⟨q0,hix,hrd,_,_,_,_,_⟩:=hob;have hsu:=fun x y => @PtsTo.succ ls fr d k x y
    have hlg:=tt.leg.leg k hlt;have hgx:∃ x,x = ls.getD k default:=⟨_,rfl⟩;obtain ⟨x,hx⟩:=hgx;have hgy:∃ y,y = d[k]!:=⟨_,rfl⟩;obtain ⟨y,hy⟩:=hgy;rw [← hx] at hrd hsu hlg;rw [← hy] at hrl hrng hsu;have rT:=hK5.read z3 t0';have rW:=hK5.read z4 w4'
    by_cases hc:y < 10060
    · have hbr:=drawn hL5 (begins_runs hS fr to 0 10000 x (H5.relow H5.size));obtain ⟨H6a,H6,hK6,hL6,f6,fd6⟩:=hbr;unfold wv at f6;have hK36:=hK5.trans hK6;have hg6:=hK6.grp hg5;have hl6:=hlst.keep hK6
      by_cases hcf:x.f = fr
      · rw [decide_eq_true ⟨hcf,hlg.1⟩] at f6;have rT6:=hK36.read z3 t0';have hob:=SlG_at (tt.legs.keep (hK03.trans hK36)) hlt;obtain ⟨q1,hix1,_,_,_,g2,_,_⟩:=hob;rw [← hx] at g2;have hqp:q0 = q1:=by have:=hix.symm.trans hix1; simpa using this
        rw [← hqp] at g2;clear hix1 hqp;have hpu:=hl6.push (t:=40) elemOkP (stableS 0) hg6 hK36.size (x:=(x.d,y)) (stE_at ⟨by show _ ≤ x.d; omega,by show x.d ≤ _; omega⟩ ⟨by show _ ≤ y; omega,by show y ≤ _; omega⟩) rfl (by omega)
        obtain ⟨v8,H8,ap8,hl8,gr8⟩:=hpu;have bs8:aBuildSlice Try.prog H6 35 1 [(0,.agg ⟨[.int .i64 x.d,.int .i64 y]⟩)] = _:=bs1P H6 (x.d,y);have bd8:=bdS x.d y;have hK38:=gr8.base H3 hg3 hK36 (Nat.le_refl _);have hg8:=gr8.grp hg6;have hmem':∀ x' y',(x',y') ∈ xs ++ [(x.d,y)] ↔ PtsTo ls fr d (k + 1) x' y':=fun x' y' => by
          rw [hsu,List.mem_append,hmem,List.mem_singleton];constructor
          · rintro (h | h)
            · exact .inl h
            · cases h; exact .inr ⟨hc,hcf,rfl,rfl⟩
          · rintro (h | ⟨_,_,h1,h2⟩)
            · exact .inl h
            · rw [h1,h2]; exact .inr rfl
        unfold pc at ap8 bs8;clear hlst hmem hsu hl6 gr8 hK5 hK6 hK36 hK05 hx hy hcf tt hLW hrng hO3 t0' w4'
        repeat' (first | simp only [↓Zaca,↓Zabv,↓Zabx,↓Zabz,↓Zaai,↓Zabu,↓Zabw,↓Zacw,↓Zacv,↓Zaco,↓Zaak,↓Zacj,↓Zack,↓Zaci,↓Zace,↓Zacg,↓Zach,↓Zacn,↓Zadb,↓Zaaz,↓Zaau,↓Zaam,↓Zaav,↓bxOp_build,↓Zaao,↓Zaat,↓Zaan,↓Zaaq,↓Zaar,↓Zaay,↓bxOp_append,↓bxPut,↓Zabs,↓Zabr,↓Zaag,↓Zaaf,↓Zabk,↓Zabj,↓Zadc,↓Zabg,↓Zabe,↓Zabf,↓dstAt,↓Zabh,Zacx,Zaae,Zabi,Zaad,Zacb,Zacs,Zacu,List.map,List.nil_append,List.append_nil,↓reduceIte,Nat.reduceEqDiff,Nat.reduceLT,dec_T,true_and,Zaab,Nat.add_zero,one1,Option.bind_some,Option.map_some, *,ldC,ldLs,ldG,ldW,faT0,faG2,one1] | (with_reducible first | refine Zacd (by assumption) (by decide +kernel) ?_ | refine Zacc (by decide +kernel) ?_ | refine Zacm (by decide +kernel) ?_ | refine Zacf ?_))
        exact ⟨ls.length - (k + 1),by omega,k + 1,_,_,rfl,by omega,hl8,by rw [List.length_append]; show _ + 1 ≤ _; omega,hmem',rfl,rfl⟩
      · rw [decide_eq_false fun h => hcf h.1] at f6
        have hmem':∀ x' y',(x',y') ∈ xs ↔ PtsTo ls fr d (k + 1) x' y':=fun x' y' => by
          rw [hsu,hmem];exact ⟨.inl,fun h => h.elim id fun h => absurd h.2.1 hcf⟩
        clear hlst hmem hsu hK5 hK6 hK05 hx hy hcf tt hLW hrng hO3 t0' w4'
        repeat' (first | simp only [↓Zaca,↓Zabv,↓Zabx,↓Zabz,↓Zaai,↓Zabu,↓Zabw,↓Zacw,↓Zacv,↓Zaco,↓Zaak,↓Zacj,↓Zack,↓Zaci,↓Zace,↓Zacg,↓Zach,↓Zacn,↓Zadb,↓Zaaz,↓Zaau,↓Zaam,↓Zaav,↓bxOp_build,↓Zaao,↓Zaat,↓Zaan,↓Zaaq,↓Zaar,↓Zaay,↓bxOp_append,↓bxPut,↓Zabs,↓Zabr,↓Zaag,↓Zaaf,↓Zabk,↓Zabj,↓Zadc,↓Zabg,↓Zabe,↓Zabf,↓dstAt,↓Zabh,Zacx,Zaae,Zabi,Zaad,Zacb,Zacs,Zacu,Zact,List.map,List.nil_append,List.append_nil,↓reduceIte,Nat.reduceEqDiff,Nat.reduceLT,dec_T,true_and,Zaab,Nat.add_zero,one1,Option.bind_some,Option.map_some, *,ldC,ldLs,ldG,ldW,faT0,one1] | (with_reducible first | refine Zacd (by assumption) (by decide +kernel) ?_ | refine Zacc (by decide +kernel) ?_ | refine Zacm (by decide +kernel) ?_ | refine Zacf ?_))
        exact ⟨ls.length - (k + 1),by omega,k + 1,_,_,rfl,by omega,hl6,by omega,hmem',rfl,rfl⟩
    · have hmem':∀ x' y',(x',y') ∈ xs ↔ PtsTo ls fr d (k + 1) x' y':=fun x' y' => by
        rw [hsu,hmem];exact ⟨.inl,fun h => h.elim id fun h => absurd h.1 hc⟩
      clear hmem hsu hK05 hx hy tt hLW hrng hO3 t0' w4'
      repeat' (first | simp only [↓Zaca,↓Zabv,↓Zabx,↓Zabz,↓Zaai,↓Zabu,↓Zabw,↓Zacw,↓Zacv,↓Zaco,↓Zaak,↓Zacj,↓Zack,↓Zaci,↓Zace,↓Zacg,↓Zach,↓Zacn,↓Zadb,↓Zaaz,↓Zaau,↓Zaam,↓Zaav,↓bxOp_build,↓Zaao,↓Zaat,↓Zaan,↓Zaaq,↓Zaar,↓Zaay,↓bxOp_append,↓bxPut,↓Zabs,↓Zabr,↓Zaag,↓Zaaf,↓Zabk,↓Zabj,↓Zadc,↓Zabg,↓Zabe,↓Zabf,↓dstAt,↓Zabh,Zacx,Zaae,Zabi,Zaac,Zacb,Zacr,Zacu,Zact,List.nil_append,↓reduceIte,Nat.reduceEqDiff,Nat.reduceLT,dec_T,dec_F,true_and,one1,Option.bind_some, *,ldC,one1] | (with_reducible first | refine Zacd (by assumption) (by decide +kernel) ?_ | refine Zacc (by decide +kernel) ?_ | refine Zacm (by decide +kernel) ?_ | refine Zacf ?_))
      exact ⟨ls.length - (k + 1),by omega,k + 1,_,_,rfl,by omega,hlst,by omega,hmem',rfl,rfl⟩
  · have hke:k = ls.length:=by omega
    subst hke;have hlt':¬ (((ls.length:Nat):Int) < ((ls.length:Nat):Int)):=by omega
    have hpi:=PtsIn.lst hlst hK05 hg hK03.size (by omega)
    have hbe:=best_runs hS H H5 lv xs.toArray hL hpi;obtain ⟨u9,H9,hR9,Q,hin9,hb9,hbl⟩:=hbe;have hbl:Q.length ≤ xs.length:=hbl
    have hp:PostP ls ch fr to H u9 H9:=⟨Q,hin9,by omega,fun h => absurd h hft,fun _ => best_jp tt.leg hLW (hb9.congr fun x y => by
      show (x,y) ∈ xs ↔ _
      exact hmem x y)⟩
    have f9:=hR9.bx;clear hlst hmem hK5 hpi hR9 hin9 hK05 hb9 tt hLW
    repeat' (first | simp only [↓Zaca,↓Zabv,↓Zabx,↓Zabz,↓Zaai,↓Zabu,↓Zabw,↓Zacw,↓Zacv,↓Zaco,↓Zaak,↓Zacj,↓Zack,↓Zaci,↓Zace,↓Zacg,↓Zach,↓Zadb,↓Zaaz,↓Zaau,↓Zaam,↓Zaav,↓bxOp_build,↓Zaao,↓Zaat,↓Zaan,↓Zaaq,↓Zaar,↓Zaay,↓bxOp_append,↓bxPut,↓Zabs,↓Zabr,↓Zaag,↓Zaaf,↓Zabk,↓Zabj,↓Zadc,↓Zabg,↓Zabe,↓Zabf,↓dstAt,↓Zabh,Zacx,Zaae,Zabi,Zacb,Zact,List.map,List.nil_append,List.append_nil,↓reduceIte,Nat.reduceEqDiff,Nat.reduceLT,dec_F, *] | (with_reducible first | refine Zacd (by assumption) (by decide +kernel) ?_ | refine Zacc (by decide +kernel) ?_ | refine Zacm (by decide +kernel) ?_ | refine Zacf ?_))
end Go.Proofs.Yteechkbnccpicaa
