/- Rows and columns exchanged; the least of some numbers and where it stands first. -/
import Derived.Test.YtdfjaoncabanbaaGreatDoorJD
set_option linter.unusedVariables false
set_option linter.unusedSimpArgs false
set_option linter.unusedSectionVars false

namespace Go.Proofs.YtdfjaoncabanbaaGreatDoor
open Go Go.AM
set_option maxRecDepth 10000

def colT (g:List (List Int)) (k i:Nat):List Int:=(List.range i).map fun p => (g.getD p []).getD k 0
theorem colT_succ (g:List (List Int)) (k i:Nat):colT g k (i + 1) = colT g k i ++ [(g.getD i []).getD k 0]:=by simp [colT,List.range_succ]
theorem colT_len (g:List (List Int)) (k i:Nat):(colT g k i).length = i:=by simp [colT]
theorem colT_at (g:List (List Int)) (k:Nat) {i p:Nat} (h:p < i):(colT g k i).getD p 0 = (g.getD p []).getD k 0:=by
  unfold colT;rw [List.getD_eq_getElem?_getD,List.getElem?_map,List.getElem?_range h]; rfl
def ColS (g w:List (List Int)) (n i j:Nat):Prop:=∀ k,k < n → w.getD k [] = colT g k (if k < j then i + 1 else i)
theorem ColS.next {g w:List (List Int)} {n i:Nat} (h:ColS g w n i n):ColS g w n (i + 1) 0:=fun k hk => by
  have:=h k hk;rw [if_pos hk] at this;rw [if_neg (Nat.not_lt_zero k)]; exact this
theorem ColS.step {g w:List (List Int)} {n i j:Nat} (h:ColS g w n i j) (hj:j < n) (hl:w.length = n):ColS g (w.set j (w.getD j [] ++ [(g.getD i []).getD j 0])) n i (j + 1):=fun k hk => by
  rw [setDl (by omega)]
  by_cases hkj:j = k
  · subst hkj;have:=h j hk;rw [if_neg (Nat.lt_irrefl j)] at this;rw [if_pos rfl,if_pos (Nat.lt_succ_self j),this,colT_succ]
  · have:=h k hk;rw [if_neg hkj,this]
    by_cases h1:k < j
    · rw [if_pos h1,if_pos (by omega)]
    · rw [if_neg h1,if_neg (by omega)]

theorem bsI1 (H:Heap) (z:Int):aBuildSlice Tryz.prog H 23 1 [(0,.int .i64 z)] = some (.slice (some ⟨H.size,0,none⟩) 1 1,H.newExact [.int .i64 z] 3):=by kernel_rfl

variable {S:AM.Sys} (hS:Only S 5)
include hS

set_option maxHeartbeats 4000000 in
theorem turned_runs (g:List (List Int)) (gv:Value) (r o:Nat) (n:Nat) (H:Heap) (hgr:Grp H) (hL:H.low ≤ H.size) (hg:SlG H gv g r o) (h0:0 < g.length) (hgl:g.length ≤ 50) (hn:n ≤ 50)
    (hrow:∀ i,i < g.length → (g.getD i []).length = n) :
    ∃ u H' w,Runs Tryz.prog S (.fn 25) [gv] H u H' ∧ Keep H H' ∧ SlG H' u w H.size 0 ∧ w.length = n ∧ ∀ k,k < n → w.getD k [] = colT g k g.length:=by
  suffices h:WCall Tryz.prog S (.fn 25) [gv] H (fun u H' => ∃ w,Keep H H' ∧ SlG H' u w H.size 0 ∧ w.length = n ∧ ∀ k,k < n → w.getD k [] = colT g k g.length) by
    obtain ⟨u,H',hr,w,h⟩:=h; exact ⟨u,H',w,hr,h⟩
  obtain ⟨a,cap,rfl⟩:=hg.v0;obtain ⟨H1,mk,tw⟩:=mkG H hgr (show n ≤ 60 by omega)
  have hob:=SlG_at hg (k:=0) h0;obtain ⟨ix0,xv0,r00,o00,rd00,s00⟩:=hob;obtain ⟨a00,c00,rfl⟩:=s00.v0;have ix0:aIndexAt Tryz.prog 22 (.slice a g.length cap) (.int .i64 0) = some (.pointer (some ⟨r,o,none⟩)):=ix0;have hl0:(g.getD 0 default).length = n:=hrow 0 h0;have rd00:H.read r o 1 = some [.slice a00 (g.getD 0 default).length c00]:=rd00;rw [hl0] at rd00;have cs0:ColS g (List.replicate n []) n 0 0:=fun k hk => by
    rw [if_neg (Nat.not_lt_zero k),List.getD_eq_getElem?_getD,List.getElem?_replicate]; split <;> rfl
  refine call_of Tryz.func25 rfl (Nat.le_of_ble_eq_true rfl) (hS.no rfl _ _) ?_
  rw [Tryz.ntmps25,Tryz.results25];clear hl0 s00
  repeat' simp only [↓Zabo,↓Zabq,↓Zaag,↓Zabl,↓Zabp,↓Zaci,↓Zach,↓Zacn,↓Zaar,↓Zaaj,↓Zaaq,↓bxOp_makeSlice,↓Zaao,↓Zaap,↓bxPut,↓Zabj,↓Zabh,↓Zacl,↓Zacm,↓Zaco,↓Zaba,↓Zaay,Zacj,Zabf,↓reduceIte,Nat.reduceEqDiff,Nat.reduceLT,one1,Option.bind_some, *,argF,List.getD_cons_zero,lenG,lenI,ldIs]
  refine sxL_of (fun m ρ X => ∃ (i:Nat) (w:List (List Int)),m = g.length - i ∧ i ≤ g.length ∧ TW H X H.size w n ∧ ColS g w n i 0 ∧ ρ 3 = .slice (some ⟨H.size,0,none⟩) n n ∧ ρ 13 = .slice a g.length cap ∧ ρ 14 = .int .i64 (g.length:Int) ∧ ρ 15 = .int .i64 (i:Int))
    ⟨0,_,rfl,Nat.zero_le _,tw,cs0,rfl,rfl,rfl,rfl⟩ ?_
  clear mk tw ix0 rd00 cs0;rintro m ρ X ⟨i,w,rfl,hi,tw,cs,e3,e13,e14,e15⟩
  by_cases hil:i < g.length
  case neg =>
    have hlt:¬ (i:Int) < (g.length:Int):=by omega
    have hie:i = g.length:=by omega
    rw [hie] at cs;have hw:∀ k,k < n → w.getD k [] = colT g k g.length:=fun k hk => by
      have:=cs k hk;rwa [if_neg (Nat.not_lt_zero k)] at this
    have hsl:=tw.sl (by omega) (fun k hk => by rw [hw k hk,colT_len]; omega)
    have hpo:∃ w,Keep H X ∧ SlG X (.slice (some ⟨H.size,0,none⟩) n n) w H.size 0 ∧ w.length = n ∧ ∀ k,k < n → w.getD k [] = colT g k g.length:=⟨w,tw.keep,hsl,tw.len,hw⟩;clear hsl tw cs hie hil hi hrow hg hw
    repeat' simp only [↓Zabr,↓Zabo,↓Zabq,↓Zaaf,↓Zaag,↓Zabl,↓Zabn,↓Zaci,↓Zach,↓Zacn,↓Zaar,↓Zaaj,↓Zaaq,↓Zaak,↓Zaao,↓Zaap,↓bxPut,↓Zabj,↓Zabi,↓Zaad,↓Zabe,↓Zabd,↓Zaco,↓Zaba,↓Zaay,Zacj,Zaac,Zabc,Zacf,↓reduceIte,Nat.reduceEqDiff,Nat.reduceLT,dec_F, *]
  have hlt:(i:Int) < (g.length:Int):=by omega
  have hwi:IntKind.i64.wrap ((i:Int) + 1) = ((i + 1:Nat):Int):=IntWalk.i64_in _ (by omega)
  have hob:=SlG_at hg hil;obtain ⟨ixi,xv,r1,o1,rdx,sx⟩:=hob;replace rdx:=tw.keep.read (hg.lt h0) rdx;obtain ⟨ax,cx,rfl⟩:=sx.v0;have hgx:∃ x,g.getD i [] = x:=⟨_,rfl⟩;obtain ⟨x,hx⟩:=hgx;have hxd:g.getD i default = x:=hx;rw [hxd] at sx rdx;have hxl:x.length ≤ n ∧ n ≤ x.length:=by have:=hrow i hil; rw [hx] at this; omega
  obtain ⟨hx1,hx2⟩:=hxl;clear hxd
  repeat' simp only [↓Zabr,↓Zabo,↓Zabq,↓Zaaf,↓Zaag,↓Zabl,↓Zabn,↓Zaci,↓Zach,↓Zacn,↓Zaar,↓Zaaj,↓Zaaq,↓Zaak,↓Zaao,↓Zaap,↓bxPut,↓Zabj,↓Zabi,↓Zaad,↓Zabe,↓Zabd,↓Zaco,↓Zaba,↓Zaay,Zacj,Zaac,Zabc,Zacg,↓reduceIte,Nat.reduceEqDiff,Nat.reduceLT,dec_T,one1,Option.bind_some, *,lenI,ldIs]
  refine sxL_of (fun m ρ V => ∃ (j:Nat) (y:List (List Int)),m = x.length - j ∧ j ≤ x.length ∧ TW H V H.size y n ∧ ColS g y n i j ∧ ρ 3 = .slice (some ⟨H.size,0,none⟩) n n ∧ ρ 13 = .slice a g.length cap ∧ ρ 14 = .int .i64 (g.length:Int) ∧ ρ 15 = .int .i64 (i:Int) ∧ ρ 19 = .slice ax x.length cx ∧ ρ 20 = .int .i64 (x.length:Int) ∧ ρ 21 = .int .i64 (j:Int))
    ⟨0,w,rfl,Nat.zero_le _,tw,cs,e3,e13,e14,e15,rfl,rfl,rfl⟩ ?_
  clear e3 e13 e14 e15 ρ tw cs w rdx ixi;rintro m ρ V ⟨j,w,rfl,hj,tw,cs,e3,e13,e14,e15,e19,e20,e21⟩
  by_cases hjl:j < x.length
  case neg =>
    have hltj:¬ (j:Int) < (x.length:Int):=by omega
    have hje:j = n:=by omega
    rw [hje] at cs;have cs':=cs.next;clear hje hjl hj cs hrow hg sx hx
    repeat' simp only [↓Zabr,↓Zabo,↓Zabq,↓Zaaf,↓Zabl,↓Zabn,↓Zaci,↓Zach,↓Zacn,↓Zaar,↓Zaaj,↓Zaam,↓Zaaq,↓Zaat,↓Zaak,↓Zaao,↓bxOp_append,↓Zack,↓bxPut,↓Zabj,↓Zabi,↓Zaae,↓Zaad,↓Zabe,↓Zabd,↓Zaco,↓Zaba,↓Zaay,Zacj,Zaac,Zabc,Zacf,↓reduceIte,Nat.reduceEqDiff,Nat.reduceLT,dec_F,true_and, *]
    exact ⟨g.length - (i + 1),by omega,i + 1,w,rfl,by omega,tw,cs',rfl⟩
  have hltj:(j:Int) < (x.length:Int):=by omega
  have hwj:IntKind.i64.wrap ((j:Int) + 1) = ((j + 1:Nat):Int):=IntWalk.i64_in _ (by omega)
  have ixx:=SlI_ix (sx.keep tw.keep) hjl;have hrj:=(sx.keep tw.keep).rdI hjl;obtain ⟨rdj,hzr⟩:=hrj;have hjn:j < n:=by omega
  have ixn:aIndexAt Tryz.prog 22 (.slice (some ⟨H.size,0,none⟩) n n) (.int .i64 (j:Int)) = some (.pointer (some ⟨H.size,j,none⟩)):=by
    rw [ixG,if_pos ⟨by omega,by omega⟩,Int.toNat_natCast,Nat.mul_one,Nat.zero_add]
  have hlw:(w.getD j []).length + 1 ≤ 1000:=by
    rw [cs j hjn,if_neg (Nat.lt_irrefl j),colT_len]; omega
  have hob:=tw.push hgr (Nat.le_refl _) hjn (x.getD j 0) hzr hlw;obtain ⟨v,v2,X2,X3,q1,q2,q3,tw3⟩:=hob;have cs3:=cs.step hjn tw.len;rw [hx] at cs3;obtain ⟨w2,hw2⟩:∃ w2,w2 = w.set j (w.getD j [] ++ [x.getD j 0]):=⟨_,rfl⟩;rw [← hw2] at tw3 cs3;clear hw2 hlw tw cs hzr hrow hg sx hx
  repeat' simp only [↓Zabr,↓Zabo,↓Zabq,↓Zaaf,↓Zabl,↓Zabn,↓Zaci,↓Zach,↓Zacn,↓Zaar,↓Zaaj,↓Zaam,↓Zaaq,↓Zaat,↓Zaak,↓Zaao,↓bxOp_append,↓Zack,↓bxPut,↓Zabj,↓Zabi,↓Zaae,↓Zaad,↓Zabe,↓Zabd,↓Zaco,↓Zaba,↓Zaay,Zacj,Zaac,Zabc,Zacg,List.map,↓reduceIte,Nat.reduceEqDiff,Nat.reduceLT,dec_T,true_and,one1,Option.bind_some, *,ldI,ldIs,bsI1]
  exact ⟨x.length - (j + 1),by omega,j + 1,w2,rfl,by omega,tw3,cs3,rfl⟩
end Go.Proofs.YtdfjaoncabanbaaGreatDoor
