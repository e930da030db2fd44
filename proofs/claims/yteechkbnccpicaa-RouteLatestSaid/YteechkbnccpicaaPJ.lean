/- All journeys by their legs, by the reference. -/
import Derived.Test.YteechkbnccpicaaPI
import Derived.Test.YteechkbnccpicaaPC
set_option linter.unusedVariables false
set_option linter.unusedSimpArgs false
set_option linter.unusedSectionVars false

namespace Go.Proofs.Yteechkbnccpicaa
open Go Go.AM
set_option maxRecDepth 10000

theorem okJ:ElemOk Try.prog #[56,56] 83 (sliceE jE).sz:=⟨⟨56,56,_,Try.t83,.slice none 0 0,rfl,rfl,Try.underlying56,Try.underlying56,rfl,by kernel_rfl,by kernel_rfl,by kernel_rfl,by kernel_rfl,of_decide_eq_true (by kernel_rfl)⟩,by show 0 < 1; decide⟩
theorem bsJ (H:Heap) (a:Option Addr) (n c:Nat):aBuildSlice Try.prog H 56 1 [(0,.slice a n c)] = some (.slice (some ⟨H.size,0,none⟩) 1 1,H.newExact [.slice a n c] 83):=by kernel_rfl
variable {ls:List Lg} {ch:Int} {B:Lg → Prop}
def AllLev (ls:List Lg) (ch:Int) (B:Lg → Prop) (all:List (List (List Nat))):Prop:=(∀ q,q < all.length → LevR ls ch B q (all.getD q [])) ∧ ∀ j s,Ch ls ch j s → B (ls.getD j default) → s.length < all.length
theorem Ch.take:∀ {s:List Nat} {j:Nat} (k:Nat),Ch ls ch j s → Ch ls ch j (s.take k)
  | [],_,_,h => by rw [List.take_nil]; exact h
  | i :: s,j,0,h => h.lt
  | i :: s,j,k + 1,h => ⟨h.1,h.2.1,Ch.take k h.2.2⟩
theorem LevR.none {k:Nat} {w:List (List Nat)} (h:LevR ls ch B k w) (ha:anyB w = false):∀ j s,Ch ls ch j s → B (ls.getD j default) → s.length < k:=fun j s h1 h2 => by
  rcases Nat.lt_or_ge s.length k with hl | hl
  · exact hl
  · have h3:=h1.take k;have hi:=h3.last_lt;have hw:(w.getD (lastN j (s.take k)) []).isEmpty = true:=by
      unfold anyB at ha;rw [List.any_eq_false] at ha;have:=ha _ (getD_mem (d:=[]) (show lastN j (s.take k) < w.length by rw [h.1]; exact hi))
      simpa using this
    rcases h.2 _ hi with ⟨_,g⟩ | ⟨j2,s2,g,_⟩
    · exact absurd (by rw [List.length_take]; omega) (g j _ h3 h2 rfl)
    · rw [g] at hw; cases hw
theorem LevR.some {k:Nat} {w:List (List Nat)} (h:LevR ls ch B k w) (hk:LOk ls ch) (ha:anyB w = true):k < 10000:=by
  unfold anyB at ha;rw [List.any_eq_true] at ha;obtain ⟨x,hx,hn⟩:=ha;obtain ⟨i,hi,rfl⟩:=List.getElem_of_mem hx;rcases h.2 i (by rw [← h.1]; exact hi) with ⟨g,_⟩ | ⟨j2,s2,g,g2,_,_,g3,_⟩
  · rw [List.getD_eq_getElem?_getD,List.getElem?_eq_getElem hi] at g;have g:w[i] = []:=g;rw [g] at hn; cases hn
  · have:=g2.len hk; omega
theorem LevR.cells {k:Nat} {w:List (List Nat)} (h:LevR ls ch B k w) (h60:ls.length ≤ 60):∀ q,q < ls.length → w.getD q [] ≠ [] → (w.getD q []).length = k + 1 ∧ ∀ j ∈ w.getD q [],j ≤ 1000:=fun q hq hx => by
  refine ⟨(h.2 q hq).len hx,fun j hj => ?_⟩
  rcases h.2 q hq with ⟨g,_⟩ | ⟨j2,s2,g,g2,_⟩
  · exact absurd g hx
  · rw [g] at hj; have:=g2.mem_lt j hj; omega
theorem AllLev.snoc {all:List (List (List Nat))} {w:List (List Nat)} (h:∀ q,q < all.length → LevR ls ch B q (all.getD q [])) (hw:LevR ls ch B all.length w):∀ q,q < (all ++ [w]).length → LevR ls ch B q ((all ++ [w]).getD q []):=fun q hq => by
  rcases Nat.lt_or_ge q all.length with h1 | h1
  · rw [List.getD_eq_getElem?_getD,List.getElem?_append_left h1,← List.getD_eq_getElem?_getD]; exact h q h1
  · have:q = all.length:=by simp at hq; omega
    subst this;rw [List.getD_eq_getElem?_getD,List.getElem?_append_right (Nat.le_refl _),Nat.sub_self];exact hw

variable {S:AM.Sys} (hS:Only S 11)
include hS

def PostJs (ls:List Lg) (ch:Int) (B:Lg → Prop) (A:Heap) (u:Value) (H':Heap):Prop:=
  ∃ all r o,Keep A H' ∧ AllLev ls ch B all ∧ SlE (sliceE jE) H' u all r o ∧ all.length ≤ 10000
set_option maxHeartbeats 8000000 in
theorem rJourn_runs (ls:List Lg) (a:Option Addr) (c r o:Nat) (ch:Int) (B:Lg → Prop) (H:Heap) (r0:Nat) (w0:List Bool) (hg:Grp H) (hL:H.low ≤ H.size) (h60:ls.length ≤ 60) (hlk:LOk ls ch) (hl:SlG H (.slice a ls.length c) ls r o) (hfit:∀ i,i < ls.length → Fit ch (ls.getD i default))
    (o0:Own H r0 4 (bvs w0)) (hw0:w0.length = ls.length) (hB:∀ j,j < ls.length → (w0.getD j false = true ↔ B (ls.getD j default))) :
    ∃ u H',Runs Try.prog S (.fn 32) [.slice a ls.length c,.int .i64 ch,.slice (some ⟨r0,0,none⟩) ls.length ls.length] H u H' ∧ PostJs ls ch B H u H':=by
  suffices h:WCall Try.prog S (.fn 32) [.slice a ls.length c,.int .i64 ch,.slice (some ⟨r0,0,none⟩) ls.length ls.length] H (fun u H' => PostJs ls ch B H u H') by
    obtain ⟨u,H',hr,h⟩:=h; exact ⟨u,H',hr,h⟩
  have hob:=mkJ H h60;obtain ⟨H2,mk,rw0⟩:=hob;refine Zabc Try.func32 rfl (Nat.le_of_ble_eq_true rfl) (hS.no rfl _ _) ?_
  rw [Try.ntmps32,Try.results32]
  repeat' simp only [↓Zabz,↓Zacb,↓Zaaj,↓Zabw,↓Zaca,↓Zacy,↓Zacx,↓Zadd,↓Zaaw,↓Zaan,↓bxOp_makeSlice,↓Zaau,↓bxPut,↓Zabu,↓Zabs,↓Zadb,↓Zadc,↓Zade,↓Zabi,↓Zabg,Zacz,Zabo,↓reduceIte,Nat.reduceEqDiff,Nat.reduceLT, *,argF,List.getD_cons_zero,lenG]
  refine sxL_of (fun m ρ X => ∃ (i:Nat) (w:List (List Nat)),m = ls.length - i ∧ i ≤ ls.length ∧ RW H X H.size w ls.length ∧ (∀ q,q < i → w.getD q [] = if w0.getD q false = true then [q] else []) ∧ (∀ q,i ≤ q → w.getD q [] = []) ∧ ρ 0 = .slice a ls.length c ∧ ρ 1 = .int .i64 ch ∧ ρ 2 = .slice (some ⟨r0,0,none⟩) ls.length ls.length ∧ ρ 7 = .slice (some ⟨H.size,0,none⟩) ls.length ls.length ∧ ρ 8 = .int .i64 (i:Int))
    ⟨0,_,rfl,Nat.zero_le _,rw0,fun q hq => absurd hq (Nat.not_lt_zero q),fun q _ => getD_rep _ q,rfl,rfl,rfl,rfl,rfl⟩ ?_
  clear rw0 mk;rintro m ρ X ⟨i,w,rfl,hi,rwX,hd1,hd2,e0,e1,e2,e7,e8⟩
  by_cases hil:i < ls.length
  case pos =>
    have hil':(i:Int) < (ls.length:Int):=by omega
    have hwi:IntKind.i64.wrap ((i:Int) + 1) = ((i + 1:Nat):Int):=IntWalk.i64_in _ (by omega)
    have rdi:=readB (o0.keep rwX.keep) (k:=i) (by rw [hw0]; exact hil)
    have ixi:=ixBn (r:=r0) hil;have ixj:=ixJn (r:=H.size) hil;have hgb:∃ b1,b1 = w0.getD i false:=⟨_,rfl⟩;obtain ⟨b1,hb1⟩:=hgb;rw [← hb1] at rdi;cases b1 with
    | false =>
      have hd3:∀ q,q < i + 1 → w.getD q [] = if w0.getD q false = true then [q] else []:=fun q hq => by
        rcases Nat.lt_or_ge q i with h | h
        · exact hd1 q h
        · have:q = i:=by omega
          subst this;rw [← hb1,hd2 q (Nat.le_refl _)]; rfl
      have hd4:∀ q,i + 1 ≤ q → w.getD q [] = []:=fun q hq => hd2 q (by omega)
      clear hd1 hd2 hb1 hl hfit o0 hB hlk
      repeat' simp only [↓Zacc,↓Zabz,↓Zacb,↓Zaai,↓Zabw,↓Zaby,↓Zacy,↓Zacx,↓Zadd,↓Zaaw,↓Zaan,↓Zaaq,↓Zaav,↓Zaay,↓Zaao,↓Zaat,↓Zaau,↓Zada,↓bxPut,↓Zabu,↓Zabt,↓Zaag,↓Zaaf,↓Zabm,↓Zabl,↓Zade,↓Zabi,↓Zabg,Zacz,Zaae,Zabk,Zacw,Zacv,↓reduceIte,Nat.reduceEqDiff,Nat.reduceLT,dec_T,true_and,one1,Option.bind_some, *,lenG,ldBo]
      exact ⟨ls.length - (i + 1),by omega,i + 1,w,rfl,by omega,rwX,hd3,hd4,rfl⟩
    | true =>
      have bs1:=bsI X (i:Int);have kn:=Keep.newExact X [.int .i64 (i:Int)] 3;have on:=Own.new X [.int .i64 (i:Int)] 3;have rw1:=rwX.more kn;have hsz:H.size + 1 ≤ X.size:=by obtain ⟨vals,_,ho,_⟩:=rwX.row; exact ho.lt
      have cel:CelL (H.size + 1) (X.newExact [.int .i64 (i:Int)] 3) (.slice (some ⟨X.size,0,none⟩) 1 1) [i]:=.inr ⟨by simp,.inl ⟨i,X.size,rfl,by omega,rfl,hsz,on⟩,by simp,fun j hj => by rw [List.mem_singleton.1 hj]; omega⟩
      have hob:=rw1.set hg (Nat.le_refl _) hil cel rfl;obtain ⟨Y,st,rwY⟩:=hob;have hwl:=rwX.len;have hd3:∀ q,q < i + 1 → (w.set i [i]).getD q [] = if w0.getD q false = true then [q] else []:=fun q hq => by
        by_cases h:q = i
        · subst h;rw [setD_same (by omega),← hb1]; rfl
        · rw [setD_other h]; exact hd1 q (by omega)
      have hd4:∀ q,i + 1 ≤ q → (w.set i [i]).getD q [] = []:=fun q hq => by rw [setD_other (show q ≠ i by omega)]; exact hd2 q (by omega)
      clear hd1 hd2 hb1 hl hfit o0 hB hlk cel rwX rw1 kn on hsz hwl
      repeat' simp only [↓Zacc,↓Zabz,↓Zacb,↓Zaai,↓Zabw,↓Zaby,↓Zacy,↓Zacx,↓Zadd,↓Zaaw,↓Zaan,↓Zaaq,↓Zaav,↓Zaay,↓Zaao,↓Zaat,↓Zaau,↓Zada,↓bxPut,↓Zabu,↓Zabt,↓Zaag,↓Zaaf,↓Zabm,↓Zabl,↓Zade,↓Zabi,↓Zabg,Zacz,Zaae,Zabk,Zacw,List.map,↓reduceIte,Nat.reduceEqDiff,Nat.reduceLT,dec_T,true_and,one1,Option.bind_some, *,lenG,ldBo]
      exact ⟨ls.length - (i + 1),by omega,i + 1,_,rfl,by omega,rwY,hd3,hd4,rfl⟩
  have hil':¬ (i:Int) < (ls.length:Int):=by omega
  have hie:i = ls.length:=Nat.le_antisymm hi (Nat.not_lt.1 hil);rw [hie] at hd1
  have hlev:LevR ls ch B 0 w:=⟨rwX.len,fun i hi => by
    rw [hd1 i hi]
    by_cases h:w0.getD i false = true
    · rw [if_pos h];refine .inr ⟨i,[],rfl,hi,(hB i hi).1 h,rfl,rfl,fun j' s' _ _ h3 h4 => ?_⟩
      have:s' = []:=List.length_eq_zero_iff.1 h4;subst this;have h3:j' = i:=h3;subst h3; exact lexle.refl _
    · rw [if_neg h];refine .inl ⟨rfl,fun j s _ h2 h3 h4 => h ((hB i hi).2 ?_)⟩
      have:s = []:=List.length_eq_zero_iff.1 h4;subst this;have h3:j = i:=h3
      subst h3; exact h2⟩
  have sl0:=rwX.sl (by omega)
  rw [rwX.len] at sl0;have kX:=rwX.keep;clear hd1 hd2 hie hil hi hB o0 hw0 rwX
  repeat' simp only [↓Zacc,↓Zabz,↓Zacb,↓Zaai,↓Zabw,↓Zaby,↓Zacy,↓Zacx,↓Zadd,↓Zaaw,↓Zaan,↓Zaaq,↓Zaav,↓Zaay,↓Zaao,↓Zaat,↓Zaau,↓Zada,↓bxPut,↓Zabu,↓Zabt,↓Zaag,↓Zaaf,↓Zabm,↓Zabl,↓Zade,↓Zabi,↓Zabg,Zacz,Zaae,Zabk,Zacv,↓reduceIte,Nat.reduceEqDiff,Nat.reduceLT,dec_F, *,lenG]
  refine sxL_of (fun m ρ Y => ∃ (all:List (List (List Nat))) (w:List (List Nat)) (nr:Nat) (v:Value),m = 10001 - all.length ∧ all.length ≤ 10000 ∧ Keep H Y ∧ (∀ q,q < all.length → LevR ls ch B q (all.getD q [])) ∧ LevR ls ch B all.length w ∧ SlE jE Y (.slice (some ⟨nr,0,none⟩) ls.length ls.length) w nr 0 ∧ LstG (sliceE jE) 83 H.size Y v all ∧ ρ 0 = .slice a ls.length c ∧ ρ 1 = .int .i64 ch ∧ ρ 7 = .slice (some ⟨nr,0,none⟩) ls.length ls.length ∧ ρ 9 = v)
    ⟨[],w,H.size,.slice none 0 0,rfl,Nat.zero_le _,kX,fun q hq => absurd hq (Nat.not_lt_zero q),hlev,sl0,LstG.nil,e0,e1,e7,rfl⟩ ?_
  clear hlev sl0 kX e0 e1 e2 e7 e8 ρ hil' w;rintro m ρ Y ⟨all,w,nr,v,rfl,hal,kY,hlevs,hlev,slw,hlst,e0,e1,e7,e9⟩;have fs:=(rSome_runs hS w _ _ _ Y slw).bx
  by_cases hany:anyB w = true
  case neg =>
    have hany:anyB w = false:=by cases h:anyB w with | true => exact absurd h hany | false => rfl
    rw [hany] at fs;have hob:=hlst.sl (by have:Go.maxLen = 9223372036854775807:=rfl; omega)
    obtain ⟨r9,s9,_⟩:=hob;have hp:PostJs ls ch B H v Y:=⟨all,r9,0,kY,⟨hlevs,hlev.none hany⟩,s9,hal⟩;clear hany hlst s9 hlevs hlev slw kY hal hl hfit hlk
    repeat' simp only [↓Zacc,↓Zabz,↓Zacb,↓Zaai,↓Zabw,↓Zaby,↓Zacy,↓Zacx,↓Zadd,↓Zaaw,↓Zaan,↓Zaaq,↓Zaba,↓Zaam,↓bxPut,↓Zabu,↓Zabt,↓Zaag,↓Zaaf,↓Zabm,↓Zabl,↓Zade,↓Zabi,↓Zabh,Zacd,Zacv,List.map,List.nil_append,List.append_nil,↓reduceIte,Nat.reduceEqDiff,Nat.reduceLT, *]
  rw [hany] at fs;have hkl:=hlev.some hlk hany;have gY:=kY.grp hg;have hlY:=kY.low hL;obtain ⟨av,rfl⟩:=hlst.isv;have hob:=hlst.push (P:=Try.prog) (ts:=#[56,56]) okJ (stable_slice stable_j) gY kY.size (x:=w) (es:=[.slice (some ⟨nr,0,none⟩) ls.length ls.length]) ⟨_,nr,0,rfl,slw⟩ rfl (by omega) 83
  obtain ⟨v2,Y2,ap2,l2,gr2⟩:=hob;have kY2:=gr2.base H hg kY (Nat.le_refl _);have gY2:=gr2.grp gY;have lY2:=gr2.low hlY;have bs2:=bsJ Y (some ⟨nr,0,none⟩) ls.length ls.length;have slw2:SlE jE Y2 (.slice (some ⟨nr,0,none⟩) ls.length ls.length) w nr 0:=slw.ge stable_j (fun _ => Nat.zero_le _) gr2.ge
  have hwl:=hlev.1;have hob:=rGrown_runs hS ls a c r o ch Y2 w (some ⟨nr,0,none⟩) ls.length nr 0 gY2 lY2 h60 (hl.keep kY2) hfit (by rw [hwl]; exact slw2) hwl (k:=all.length) (by omega) (hlev.cells h60)
  obtain ⟨Y3,w3,RG,rw3,hgr⟩:=hob;have f3:=RG.bx;have hlev3:LevR ls ch B (all ++ [w]).length w3:=⟨rw3.len,fun i hi => by rw [List.length_append]; exact (hgr i hi).done hlev hi⟩
  have hlevs3:=AllLev.snoc hlevs hlev;have sl3:=rw3.sl (by omega)
  rw [rw3.len] at sl3;have l3:=l2.keep rw3.keep;have kY3:=kY2.trans rw3.keep;have hal2:(all ++ [w]).length = all.length + 1:=by rw [List.length_append]; rfl
  have hgz:∃ al,al = all ++ [w]:=⟨_,rfl⟩;obtain ⟨al,hal3⟩:=hgz;rw [← hal3] at hal2 hlev3 hlevs3 l3;have hal4:al.length ≤ 10000:=by omega
  have hms:10001 - al.length < 10001 - all.length:=by omega
  clear RG rw3 hgr l2 hlevs hlev hwl slw slw2 hlst gr2 kY2 gY2 lY2 gY hlY kY hl hfit hlk hany hal3 hal2
  repeat' simp only [↓Zacc,↓Zabz,↓Zacb,↓Zaai,↓Zabw,↓Zaby,↓Zacy,↓Zacx,↓Zadd,↓Zaaw,↓Zaan,↓Zaaq,↓Zaba,↓Zaam,↓bxPut,↓Zabu,↓Zabt,↓Zaag,↓Zaaf,↓Zabm,↓Zabl,↓Zade,↓Zabi,↓Zabh,Zacz,Zacd,Zacw,List.map,List.nil_append,List.append_nil,↓reduceIte,Nat.reduceEqDiff,Nat.reduceLT,true_and, *]
  exact ⟨_,hms,al,w3,Y2.size,v2,rfl,hal4,hlevs3,hlev3,sl3,l3,rfl,rfl⟩
end Go.Proofs.Yteechkbnccpicaa

namespace Go.Proofs.Yteechkbnccpicaa
open Go Go.AM
set_option maxRecDepth 10000

def cell (all:List (List (List Nat))) (k i:Nat):List Nat:=(all.getD k []).getD i []
def Qual (ls:List Lg) (to by':Int) (i:Nat):Prop:=(ls.getD i default).t = to ∧ (ls.getD i default).a ≤ by'
def Seen (k i k' i':Nat):Prop:=k' < k ∨ (k' = k ∧ i' < i)
theorem Seen.succ {k i k' i':Nat} (h:Seen k (i + 1) k' i'):Seen k i k' i' ∨ (k' = k ∧ i' = i):=by unfold Seen at *; omega
theorem Seen.up {k i k' i':Nat} (h:Seen k i k' i'):Seen k (i + 1) k' i':=by unfold Seen at *; omega
def BestI (ls:List Lg) (to by':Int) (all:List (List (List Nat))) (k i:Nat) (x:List Nat) (arr:Int):Prop:=
  (x = [] ∧ ∀ k' i',i' < ls.length → Seen k i k' i' → cell all k' i' ≠ [] → ¬ Qual ls to by' i') ∨
  ∃ k0 i0,i0 < ls.length ∧ Seen k i k0 i0 ∧ x = cell all k0 i0 ∧ x ≠ [] ∧ Qual ls to by' i0 ∧ arr = (ls.getD i0 default).a ∧ ∀ k' i',i' < ls.length → Seen k i k' i' → cell all k' i' ≠ [] → Qual ls to by' i' → arr < (ls.getD i' default).a ∨ (arr = (ls.getD i' default).a ∧ Le x (cell all k' i'))
variable {ls:List Lg} {to by':Int} {all:List (List (List Nat))}
theorem BestI.zero {arr:Int}:BestI ls to by' all 0 0 [] arr:=.inl ⟨rfl,fun k' i' _ h => by unfold Seen at h; omega⟩
theorem BestI.skip {k i:Nat} {x:List Nat} {arr:Int} (h:BestI ls to by' all k i x arr) (hn:cell all k i ≠ [] → ¬ Qual ls to by' i):BestI ls to by' all k (i + 1) x arr:=by
  rcases h with ⟨h1,h2⟩ | ⟨k0,i0,h1,h2,h3,h4,h5,h6,h7⟩
  · refine .inl ⟨h1,fun k' i' g1 g2 g3 => ?_⟩
    rcases g2.succ with g | ⟨rfl,rfl⟩
    · exact h2 k' i' g1 g g3
    · exact hn g3
  · refine .inr ⟨k0,i0,h1,h2.up,h3,h4,h5,h6,fun k' i' g1 g2 g3 g4 => ?_⟩
    rcases g2.succ with g | ⟨rfl,rfl⟩
    · exact h7 k' i' g1 g g3 g4
    · exact absurd g4 (hn g3)
theorem BestI.take {k i:Nat} {x:List Nat} {arr:Int} (h:BestI ls to by' all k i x arr) (hi:i < ls.length) (hc:cell all k i ≠ []) (hq:Qual ls to by' i) (hb:x = [] ∨ (ls.getD i default).a < arr ∨ ((ls.getD i default).a = arr ∧ Le (cell all k i) x)):BestI ls to by' all k (i + 1) (cell all k i) (ls.getD i default).a:=by
  refine .inr ⟨k,i,hi,.inr ⟨rfl,Nat.lt_succ_self _⟩,rfl,hc,hq,rfl,fun k' i' g1 g2 g3 g4 => ?_⟩
  rcases g2.succ with g | ⟨rfl,rfl⟩
  · rcases h with ⟨h1,h2⟩ | ⟨k0,i0,h1,h2,h3,h4,h5,h6,h7⟩
    · exact absurd g4 (h2 k' i' g1 g g3)
    · rcases hb with hb | hb | ⟨hb,hle⟩
      · exact absurd hb h4
      · rcases h7 k' i' g1 g g3 g4 with e | ⟨e,_⟩ <;> exact .inl (by omega)
      · rcases h7 k' i' g1 g g3 g4 with e | ⟨e,e2⟩
        · exact .inl (by omega)
        · exact .inr ⟨by omega,hle.trans e2⟩
  · exact .inr ⟨rfl,Le.refl _⟩
theorem BestI.stay {k i:Nat} {x:List Nat} {arr:Int} (h:BestI ls to by' all k i x arr) (hx:x ≠ []) (hb:arr < (ls.getD i default).a ∨ (arr = (ls.getD i default).a ∧ Le x (cell all k i))):BestI ls to by' all k (i + 1) x arr:=by
  rcases h with ⟨h1,_⟩ | ⟨k0,i0,h1,h2,h3,h4,h5,h6,h7⟩
  · exact absurd h1 hx
  · refine .inr ⟨k0,i0,h1,h2.up,h3,h4,h5,h6,fun k' i' g1 g2 g3 g4 => ?_⟩
    rcases g2.succ with g | ⟨rfl,rfl⟩
    · exact h7 k' i' g1 g g3 g4
    · exact hb
theorem BestI.row {k:Nat} {x:List Nat} {arr:Int} (h:BestI ls to by' all k ls.length x arr):BestI ls to by' all (k + 1) 0 x arr:=by
  have hs:∀ k' i',i' < ls.length → Seen (k + 1) 0 k' i' → Seen k ls.length k' i':=fun k' i' h1 h2 => by unfold Seen at *; omega
  rcases h with ⟨h1,h2⟩ | ⟨k0,i0,h1,h2,h3,h4,h5,h6,h7⟩
  · exact .inl ⟨h1,fun k' i' g1 g2 g3 => h2 k' i' g1 (hs _ _ g1 g2) g3⟩
  · exact .inr ⟨k0,i0,h1,by unfold Seen at *; omega,h3,h4,h5,h6,fun k' i' g1 g2 g3 g4 => h7 k' i' g1 (hs _ _ g1 g2) g3 g4⟩
theorem BestI.len {k i:Nat} {x:List Nat} {arr:Int} (h:BestI ls to by' all k i x arr) (hc:∀ k' i',i' < ls.length → cell all k' i' ≠ [] → (cell all k' i').length = k' + 1) (hx:x ≠ []):x.length ≤ k + 1:=by
  rcases h with ⟨h1,_⟩ | ⟨k0,i0,h1,h2,h3,h4,_⟩
  · exact absurd h1 hx
  · rw [h3] at h4 ⊢;rw [hc k0 i0 h1 h4];unfold Seen at h2; omega
def FewI (ls:List Lg) (to by':Int) (all:List (List (List Nat))) (k i:Nat) (x:List Nat):Prop:=
  (x = [] ∧ ∀ i',i' < i → cell all k i' ≠ [] → ¬ Qual ls to by' i') ∨
  ∃ i0,i0 < i ∧ x = cell all k i0 ∧ x ≠ [] ∧ Qual ls to by' i0 ∧ ∀ i',i' < i → cell all k i' ≠ [] → Qual ls to by' i' → lexle x (cell all k i')
theorem FewI.zero {k:Nat}:FewI ls to by' all k 0 []:=.inl ⟨rfl,fun i' h => absurd h (Nat.not_lt_zero i')⟩
theorem FewI.skip {k i:Nat} {x:List Nat} (h:FewI ls to by' all k i x) (hn:cell all k i ≠ [] → ¬ Qual ls to by' i):FewI ls to by' all k (i + 1) x:=by
  rcases h with ⟨h1,h2⟩ | ⟨i0,h1,h3,h4,h5,h7⟩
  · refine .inl ⟨h1,fun i' g1 g3 => ?_⟩
    rcases Nat.lt_or_ge i' i with g | g
    · exact h2 i' g g3
    · have:i' = i:=by omega
      subst this; exact hn g3
  · refine .inr ⟨i0,by omega,h3,h4,h5,fun i' g1 g3 g4 => ?_⟩
    rcases Nat.lt_or_ge i' i with g | g
    · exact h7 i' g g3 g4
    · have:i' = i:=by omega
      subst this; exact absurd g4 (hn g3)
theorem FewI.take {k i:Nat} {x:List Nat} (h:FewI ls to by' all k i x) (hc:cell all k i ≠ []) (hq:Qual ls to by' i) (hb:x = [] ∨ lexle (cell all k i) x):FewI ls to by' all k (i + 1) (cell all k i):=by
  refine .inr ⟨i,Nat.lt_succ_self _,rfl,hc,hq,fun i' g1 g3 g4 => ?_⟩
  rcases Nat.lt_or_ge i' i with g | g
  · rcases h with ⟨h1,h2⟩ | ⟨i0,h1,h3,h4,h5,h7⟩
    · exact absurd g4 (h2 i' g g3)
    · rcases hb with hb | hb
      · exact absurd hb h4
      · exact hb.trans (h7 i' g g3 g4)
  · have:i' = i:=by omega
    subst this; exact lexle.refl _
theorem FewI.stay {k i:Nat} {x:List Nat} (h:FewI ls to by' all k i x) (hx:x ≠ []) (hb:lexle x (cell all k i)):FewI ls to by' all k (i + 1) x:=by
  rcases h with ⟨h1,_⟩ | ⟨i0,h1,h3,h4,h5,h7⟩
  · exact absurd h1 hx
  · refine .inr ⟨i0,by omega,h3,h4,h5,fun i' g1 g3 g4 => ?_⟩
    rcases Nat.lt_or_ge i' i with g | g
    · exact h7 i' g g3 g4
    · have:i' = i:=by omega
      subst this; exact hb
theorem FewI.len {k i:Nat} {x:List Nat} (h:FewI ls to by' all k i x) (hi:i ≤ ls.length) (hc:∀ k' i',i' < ls.length → cell all k' i' ≠ [] → (cell all k' i').length = k' + 1) (hx:x ≠ []):x.length = k + 1:=by
  rcases h with ⟨h1,_⟩ | ⟨i0,h1,h3,h4,_⟩
  · exact absurd h1 hx
  · rw [h3] at h4 ⊢;exact hc k i0 (by omega) h4
def FewR (ls:List Lg) (to by':Int) (all:List (List (List Nat))) (x:List Nat):Prop:=
  (x = [] ∧ ∀ k' i',k' < all.length → i' < ls.length → cell all k' i' ≠ [] → ¬ Qual ls to by' i') ∨
  ∃ k0 i0,k0 < all.length ∧ i0 < ls.length ∧ x = cell all k0 i0 ∧ x ≠ [] ∧ Qual ls to by' i0 ∧ ∀ k' i',k' < all.length → i' < ls.length → cell all k' i' ≠ [] → Qual ls to by' i' → Le x (cell all k' i')
theorem FewI.found {k:Nat} {x:List Nat} (h:FewI ls to by' all k ls.length x) (hk:k < all.length) (hx:x ≠ []) (hno:∀ k' i',k' < k → i' < ls.length → cell all k' i' ≠ [] → ¬ Qual ls to by' i') (hc:∀ k' i',i' < ls.length → cell all k' i' ≠ [] → (cell all k' i').length = k' + 1):FewR ls to by' all x:=by
  have hl:=h.len (Nat.le_refl _) hc hx;rcases h with ⟨h1,_⟩ | ⟨i0,h1,h3,h4,h5,h7⟩
  · exact absurd h1 hx
  · refine .inr ⟨k,i0,hk,h1,h3,h4,h5,fun k' i' g1 g2 g3 g4 => ?_⟩
    rcases Nat.lt_trichotomy k' k with g | g | g
    · exact absurd g4 (hno k' i' g g2 g3)
    · subst g; exact .inr ⟨by rw [hl,hc _ _ g2 g3],h7 i' g2 g3 g4⟩
    · exact .inl (by rw [hl,hc _ _ g2 g3]; omega)
theorem all_at {X:Heap} {all:List (List (List Nat))} {r o:Nat} {a:Option Addr} {c:Nat} (h:SlE (sliceE jE) X (.slice a all.length c) all r o) {k:Nat} (hk:k < all.length) :
    Zaaa Try.prog 56 (.slice a all.length c) (.int .i64 (k:Int)) = some (.pointer (some ⟨r,o + k,none⟩)) ∧ ∃ a2 c2 r2 o2,X.read r (o + k) 1 = some [.slice a2 (all.getD k []).length c2] ∧ SlE jE X (.slice a2 (all.getD k []).length c2) (all.getD k []) r2 o2:=by
  obtain ⟨a',c',e,ha⟩:=h.isv;cases e;refine ⟨by rw [ha (by omega),ixJJ,if_pos ⟨by omega,by omega⟩,Int.toNat_natCast,Nat.mul_one],?_⟩
  obtain ⟨es,h1,h2⟩:=h.rd k hk;have h1:X.read r (o + k * 1) 1 = some es:=h1;rw [Nat.mul_one] at h1;obtain ⟨v,r',o',rfl,h3⟩:=h2;obtain ⟨a2,c2,rfl⟩:=h3.v0;exact ⟨a2,c2,r',o',h1,h3⟩
theorem cell_at {X:Heap} {all:List (List (List Nat))} {r o:Nat} {a:Option Addr} {c:Nat} (h:SlE (sliceE jE) X (.slice a all.length c) all r o) {k i:Nat} (hk:k < all.length) (hi:i < (all.getD k []).length) :
    ∃ q a2 c2 r2 q2 v,Zaaa Try.prog 56 (.slice a all.length c) (.int .i64 (k:Int)) = some (.pointer (some ⟨r,q,none⟩)) ∧ X.read r q 1 = some [.slice a2 (all.getD k []).length c2] ∧
      Zaaa Try.prog 83 (.slice a2 (all.getD k []).length c2) (.int .i64 (i:Int)) = some (.pointer (some ⟨r2,q2,none⟩)) ∧ X.read r2 q2 1 = some [v] ∧ one1 [v] = some v ∧ jE.At X (cell all k i) [v]:=by
  obtain ⟨h1,a2,c2,r2,o2,h2,h3⟩:=all_at h hk;obtain ⟨h4,v,h5,h6⟩:=row_at h3 hi;exact ⟨_,a2,c2,r2,_,v,h1,h2,h4,h5,by rcases jE_cases h6 with ⟨_,rfl⟩ | ⟨_,_,_,_,_,rfl,_⟩ <;> rfl,h6⟩

variable {S:AM.Sys} (hS:Only S 11)
include hS

end Go.Proofs.Yteechkbnccpicaa
