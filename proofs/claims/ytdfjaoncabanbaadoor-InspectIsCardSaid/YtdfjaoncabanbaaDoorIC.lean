/- What rows pay against parts of columns, by the program. -/
import Derived.Test.YtdfjaoncabanbaaDoorIE
set_option linter.unusedVariables false
set_option linter.unusedSimpArgs false
set_option linter.unusedSectionVars false

namespace Go.Proofs.YtdfjaoncabanbaaDoor
open Go Go.AM
set_option maxRecDepth 10000

def onH (H:Heap):Base:={ toHeap:=H,side:=[] }
def ivL (L:List Int):List Value:=L.map fun z => .int .i64 z
theorem ivL_len (L:List Int):(ivL L).length = L.length:=by simp [ivL]
theorem arrI_read {HB:Base} {X:Heap} {b r:Nat} {q:Bool} {L:List Int} (h:Arr HB X b r 3 1 q (ivL L)) {k:Nat} (hk:k < L.length):X.read r k 1 = some [.int .i64 (L.getD k 0)]:=by
  rw [h.read (o:=k) (n:=1) (by rw [ivL_len]; omega)]
  unfold ivL;rw [← List.map_drop,← List.map_take,List.drop_eq_getElem_cons hk,List.getD_eq_getElem?_getD,List.getElem?_eq_getElem hk];rfl
theorem arrI_store {HB:Base} {X:Heap} {b r:Nat} {q:Bool} {L:List Int} (h:Arr HB X b r 3 1 q (ivL L)) (z:Int) {o:Nat} (ho:o < L.length) :
    ∃ Y,aStore Tryd.prog X 3 (.pointer (some ⟨r,o,none⟩)) (.int .i64 z) = some Y ∧ Arr HB Y b r 3 1 q (ivL (L.set o z)):=by
  obtain ⟨Y,h1,h2,_⟩:=h.store (P:=Tryd.prog) (t:=3) (i:=Tryd.t3) (by kernel_rfl) (v:=.int .i64 z) (new:=[.int .i64 z]) rfl (by kernel_rfl) rfl (o:=o) (by rw [ivL_len]; show o + 1 ≤ L.length; omega)
  unfold ivL at h2;rw [splice_map ho] at h2;exact ⟨Y,h1,h2⟩
theorem arrI_storeD {HB:Base} {X:Heap} {b r:Nat} {q:Bool} {L:List Int} (hLB:HB.low ≤ HB.size) (h:Arr HB X b r 3 1 q (ivL L)) (z:Int) {o:Nat} (ho:o < L.length) :
    ∃ X2 X3,aStore Tryd.prog (X.relow X.size) 3 (.pointer (some ⟨r,o,none⟩)) (.int .i64 z) = some X2 ∧ X2.relow (Nat.min X.low X2.low) = X3 ∧ Arr HB X3 b r 3 1 q (ivL (L.set o z)) ∧ X3.low ≤ X3.size:=by
  have hlo:=h.keep.lo;obtain ⟨X2,h1,h2⟩:=arrI_store (h.kept (Keep.relowS X)) z ho;have lo2:=h2.keep.lo;have lw2:=h2.keep.low hLB;exact ⟨X2,_,h1,rfl,h2.relow (Nat.le_min.2 ⟨hlo,lo2⟩) (fun _ => Nat.le_trans (Nat.min_le_right _ _) lw2),Nat.le_trans (Nat.min_le_right _ _) lw2⟩
def dotL (x c:List Int) (k:Nat):Int:=((List.range k).map fun j => x.getD j 0 * c.getD j 0).sum
theorem dotL_succ (x c:List Int) (k:Nat):dotL x c (k + 1) = dotL x c k + x.getD k 0 * c.getD k 0:=by simp [dotL,List.range_succ]
theorem dotL_rng {x c:List Int} {k:Nat} (h:∀ j,j < k → -1000000000000000 ≤ x.getD j 0 * c.getD j 0 ∧ x.getD j 0 * c.getD j 0 ≤ 1000000000000000):-(1000000000000000 * (k:Int)) ≤ dotL x c k ∧ dotL x c k ≤ 1000000000000000 * (k:Int):=by
  induction k with
  | zero => simp [dotL]
  | succ k ih =>
    have h1:=ih (fun j hj => h j (by omega))
    have h2:=h k (by omega)
    rw [dotL_succ]; omega

variable {S:AM.Sys} (hS:Only S 5)
include hS

set_option maxHeartbeats 4000000 in
theorem pays_runs (g:List (List Int)) (gv:Value) (r o:Nat) (v:Value) (c:List Int) (rc oc:Nat) (H:Heap) (hgr:Grp H) (hL:H.low ≤ H.size) (hg:SlG H gv g r o) (hc:SlI .i64 H v c rc oc) (h0:0 < g.length) (hn:g.length ≤ 1000) (hm:c.length ≤ 1000)
    (hrow:∀ i,i < g.length → (g.getD i []).length = c.length) (hb:∀ i j,i < g.length → j < c.length → -1000000000000000 ≤ (g.getD i []).getD j 0 * c.getD j 0 ∧ (g.getD i []).getD j 0 * c.getD j 0 ≤ 1000000000000000) :
    ∃ u H' L,Runs Tryd.prog S (.fn 15) [gv,v] H u H' ∧ Keep H H' ∧ SlI .i64 H' u L H.size 0 ∧ L.length = g.length ∧ ∀ i,i < g.length → L.getD i 0 = dotL (g.getD i []) c c.length:=by
  suffices h:WCall Tryd.prog S (.fn 15) [gv,v] H (fun u H' => ∃ L,Keep H H' ∧ SlI .i64 H' u L H.size 0 ∧ L.length = g.length ∧ ∀ i,i < g.length → L.getD i 0 = dotL (g.getD i []) c c.length) by
    obtain ⟨u,H',hr,L,h⟩:=h; exact ⟨u,H',L,hr,h⟩
  obtain ⟨a,cap,rfl⟩:=hg.v0;obtain ⟨ac,cc,rfl⟩:=hc.v0;have mk:=mkI H (l:=(g.length:Int)) (by omega) (by omega)
  rw [Int.toNat_natCast] at mk;obtain ⟨H1,e1,k1,s1,z1,-⟩:=box1 H ((List.replicate g.length (0:Int)).map fun z => .int .i64 z) 3
  have o1:Own H1 H.size 3 (ivL (List.replicate g.length (0:Int))):=e1 ▸ Own.new H _ _;rw [e1] at mk;have arr1:Arr (onH H) H1 H.size H.size 3 1 true (ivL (List.replicate g.length (0:Int))):=Arr.own k1 hgr (Nat.le_refl _) (fun x hx => by cases hx) o1
  have hrp:∀ i,(List.replicate g.length (0:Int)).getD i 0 = 0:=fun i => by rw [List.getD_eq_getElem?_getD,List.getElem?_replicate]; split <;> rfl
  refine Zaaw Tryd.func15 rfl (Nat.le_of_ble_eq_true rfl) (hS.no rfl _ _) ?_
  rw [Tryd.ntmps15,Tryd.results15];clear e1 s1 o1 k1
  repeat' simp only [↓Zabo,↓Zabq,↓Zaah,↓Zabl,↓Zabp,↓Zaci,↓Zach,↓Zacn,↓Zaar,↓Zaaj,↓bxOp_makeSlice,↓Zaap,↓bxPut,↓Zabj,↓Zabh,↓Zacl,↓Zacm,↓Zaco,↓Zaba,↓Zaay,Zacj,Zabf,↓reduceIte,Nat.reduceEqDiff,Nat.reduceLT, *,argF,List.getD_cons_zero,lenG]
  refine sxL_of (fun m ρ X => ∃ (i:Nat) (L:List Int),m = g.length - i ∧ i ≤ g.length ∧ Arr (onH H) X H.size H.size 3 1 true (ivL L) ∧ L.length = g.length ∧ (∀ k,k < i → L.getD k 0 = dotL (g.getD k []) c c.length) ∧ (∀ k,i ≤ k → L.getD k 0 = 0) ∧ ρ 1 = .slice ac c.length cc ∧ ρ 5 = .slice (some ⟨H.size,0,none⟩) g.length g.length ∧ ρ 13 = .slice a g.length cap ∧ ρ 14 = .int .i64 (g.length:Int) ∧ ρ 15 = .int .i64 (i:Int))
    ⟨0,_,rfl,Nat.zero_le _,arr1,by simp,fun k hk => absurd hk (Nat.not_lt_zero k),fun k _ => hrp k,rfl,rfl,rfl,rfl,rfl⟩ ?_
  clear mk arr1 hrp;rintro m ρ X ⟨i,L,rfl,hi,arr,hLl,hd1,hd2,e1,e5,e13,e14,e15⟩
  by_cases hil:i < g.length
  case neg =>
    have hlt:¬ (i:Int) < (g.length:Int):=by omega
    have hie:i = g.length:=by omega
    have hml:L.length ≤ 1000:=by omega
    have hsl:SlI .i64 X (.slice (some ⟨H.size,0,none⟩) L.length g.length) L H.size 0:=Own.sl arr.toOwn (fun z hz => by
      obtain ⟨k,hk,rfl⟩:=List.getElem_of_mem hz;have h1:=hd1 k (by omega)
      rw [List.getD_eq_getElem?_getD,List.getElem?_eq_getElem hk] at h1;have h1:L[k] = _:=h1;have h2:=dotL_rng (x:=g.getD k []) (c:=c) (k:=c.length) (fun j hj => hb k j (by omega) hj)
      have h5:IntKind.i64.min = -9223372036854775808:=rfl;have h6:IntKind.i64.max = 9223372036854775807:=rfl
      rw [h1,h5,h6]; omega) (by have:Go.maxLen = 9223372036854775807:=rfl; omega) g.length
    rw [hLl] at hsl;have hpo:∃ L,Keep H X ∧ SlI .i64 X (.slice (some ⟨H.size,0,none⟩) g.length g.length) L H.size 0 ∧ L.length = g.length ∧ ∀ i,i < g.length → L.getD i 0 = dotL (g.getD i []) c c.length:=⟨L,arr.keep,hsl,hLl,fun k hk => hd1 k (by omega)⟩
    clear hsl arr hd1 hd2 hie hil hi hb hrow hg hc hLl hml
    repeat' simp only [↓Zabr,↓Zabo,↓Zabq,↓Zaag,↓Zaah,↓Zabl,↓Zabn,↓Zaci,↓Zach,↓Zacn,↓Zaar,↓Zaaj,↓Zaaq,↓Zaak,↓Zaao,↓Zaap,↓bxPut,↓Zabj,↓Zabi,↓Zaae,↓Zabe,↓Zabd,↓Zaco,↓Zaba,↓Zaay,Zacj,Zaad,Zabc,Zacf,↓reduceIte,Nat.reduceEqDiff,Nat.reduceLT,dec_F, *]
  have hlt:(i:Int) < (g.length:Int):=by omega
  have hwi:IntKind.i64.wrap ((i:Int) + 1) = ((i + 1:Nat):Int):=IntWalk.i64_in _ (by omega)
  have hob:=SlG_at hg hil;obtain ⟨ixi,xv,r1,o1,rdx,sx⟩:=hob;replace rdx:=arr.keep.read (hg.lt h0) rdx;obtain ⟨ax,cx,rfl⟩:=sx.v0;have hgx:∃ x,g.getD i [] = x:=⟨_,rfl⟩;obtain ⟨x,hx⟩:=hgx;have hxd:g.getD i default = x:=hx;rw [hxd] at sx rdx;have hxl:x.length ≤ c.length ∧ c.length ≤ x.length:=by have:=hrow i hil; rw [hx] at this; omega
  obtain ⟨hx1,hx2⟩:=hxl;have hLi:L.getD i 0 = 0:=hd2 i (Nat.le_refl _);have hd3:∀ k,i + 1 ≤ k → L.getD k 0 = 0:=fun k hk => hd2 k (by omega)
  have hbi:∀ j,j < c.length → -1000000000000000 ≤ x.getD j 0 * c.getD j 0 ∧ x.getD j 0 * c.getD j 0 ≤ 1000000000000000:=fun j hj => by have:=hb i j hil hj; rwa [hx] at this
  clear hxd hd2
  repeat' simp only [↓Zabr,↓Zabo,↓Zabq,↓Zaag,↓Zaah,↓Zabl,↓Zabn,↓Zaci,↓Zach,↓Zacn,↓Zaar,↓Zaaj,↓Zaaq,↓Zaak,↓Zaao,↓Zaap,↓bxPut,↓Zabj,↓Zabi,↓Zaae,↓Zabe,↓Zabd,↓Zaco,↓Zaba,↓Zaay,Zacj,Zaad,Zabc,Zacg,↓reduceIte,Nat.reduceEqDiff,Nat.reduceLT,dec_T,one1,Option.bind_some, *,lenI,ldIs]
  refine sxL_of (fun m ρ V => ∃ (j:Nat) (M:List Int),m = x.length - j ∧ j ≤ x.length ∧ Arr (onH H) V H.size H.size 3 1 true (ivL M) ∧ M.length = g.length ∧ (∀ k,k < i → M.getD k 0 = dotL (g.getD k []) c c.length) ∧ M.getD i 0 = dotL x c j ∧ (∀ k,i + 1 ≤ k → M.getD k 0 = 0) ∧ ρ 1 = .slice ac c.length cc ∧ ρ 5 = .slice (some ⟨H.size,0,none⟩) g.length g.length ∧ ρ 6 = .int .i64 (i:Int) ∧ ρ 13 = .slice a g.length cap ∧ ρ 14 = .int .i64 (g.length:Int) ∧ ρ 15 = .int .i64 (i:Int) ∧ ρ 20 = .slice ax x.length cx ∧ ρ 21 = .int .i64 (x.length:Int) ∧ ρ 22 = .int .i64 (j:Int))
    ⟨0,L,rfl,Nat.zero_le _,arr,hLl,hd1,hLi,hd3,e1,e5,rfl,e13,e14,e15,rfl,rfl,rfl⟩ ?_
  clear e1 e5 e13 e14 e15 ρ arr hLl hd1 hLi hd3 L rdx ixi;rintro m ρ V ⟨j,M,rfl,hj,arr,hMl,hd1,hMi,hd3,e1,e5,e6,e13,e14,e15,e20,e21,e22⟩
  by_cases hjl:j < x.length
  case neg =>
    have hltj:¬ (j:Int) < (x.length:Int):=by omega
    have hje:j = c.length:=by omega
    rw [hje] at hMi;have hd1':∀ k,k < i + 1 → M.getD k 0 = dotL (g.getD k []) c c.length:=fun k hk => by
      rcases Nat.lt_or_ge k i with h | h
      · exact hd1 k h
      · have:k = i:=by omega
        subst this; rw [hx]; exact hMi
    clear hje hjl hj hMi hd1 hbi hb hrow hg hc sx hx
    repeat' (first | simp only [↓Zabr,↓Zabm,↓Zabo,↓Zabq,↓Zaag,↓Zabl,↓Zabn,↓Zaci,↓Zach,↓Zacb,↓Zaai,↓Zabz,↓Zaby,↓sxDL_binOp,↓Zabx,↓Zacn,↓Zaar,↓Zaaj,↓Zaaq,↓Zaat,↓Zaak,↓Zaao,↓Zack,↓bxPut,↓Zabj,↓Zabi,↓Zaaf,↓Zaae,↓Zabe,↓Zabd,↓Zaco,↓Zaba,↓Zaay,Zacj,Zaad,Zabc,Zacf,↓reduceIte,Nat.reduceEqDiff,Nat.reduceLT,dec_F,true_and, *] | (with_reducible first | refine Zabu (by assumption) (by decide +kernel) ?_ | refine Zabt (by decide +kernel) ?_ | refine Zaca (by decide +kernel) ?_ | refine Zabv ?_))
    exact ⟨g.length - (i + 1),by omega,i + 1,M,rfl,by omega,arr,hMl,hd1',hd3,rfl⟩
  have hltj:(j:Int) < (x.length:Int):=by omega
  have hwj:IntKind.i64.wrap ((j:Int) + 1) = ((j + 1:Nat):Int):=IntWalk.i64_in _ (by omega)
  have hLV:=arr.keep.low hL;have ixx:=SlI_ix (sx.keep arr.keep) hjl;have rdj:=((sx.keep arr.keep).rdI hjl).1;have ixc:=SlI_ix (hc.keep arr.keep) (show j < c.length by omega)
  have rdc:=((hc.keep arr.keep).rdI (show j < c.length by omega)).1
  have rdi:=arrI_read arr (k:=i) (by omega)
  rw [hMi] at rdi;have ixl:aIndexAt Tryd.prog 25 (.slice (some ⟨H.size,0,none⟩) g.length g.length) (.int .i64 (i:Int)) = some (.pointer (some ⟨H.size,i,none⟩)):=by
    rw [ixI,if_pos ⟨by omega,by omega⟩,Int.toNat_natCast,Nat.mul_one,Nat.zero_add]
  have q1:=hbi j (by omega)
  have q2:=dotL_rng (x:=x) (c:=c) (k:=j) (fun k hk => hbi k (by omega))
  have q3:=dotL_succ x c j;have hwm:IntKind.i64.wrap (x.getD j 0 * c.getD j 0) = x.getD j 0 * c.getD j 0:=IntWalk.i64_in _ (by omega)
  have hwa:IntKind.i64.wrap (dotL x c j + x.getD j 0 * c.getD j 0) = dotL x c (j + 1):=by rw [← q3]; exact IntWalk.i64_in _ (by omega)
  have hob:=arrI_storeD (HB:=onH H) hL arr (dotL x c (j + 1)) (o:=i) (by omega)
  obtain ⟨V2,V3,st,rl,arr3,lo3⟩:=hob;have hMl2:(M.set i (dotL x c (j + 1))).length = g.length:=by rw [List.length_set]; exact hMl
  have hd1':∀ k,k < i → (M.set i (dotL x c (j + 1))).getD k 0 = dotL (g.getD k []) c c.length:=fun k hk => by
    rw [set_getD (by omega),if_neg (by omega)]; exact hd1 k hk
  have hMi':(M.set i (dotL x c (j + 1))).getD i 0 = dotL x c (j + 1):=by rw [set_getD (by omega),if_pos rfl]
  have hd3':∀ k,i + 1 ≤ k → (M.set i (dotL x c (j + 1))).getD k 0 = 0:=fun k hk => by
    rw [set_getD (by omega),if_neg (by omega)]; exact hd3 k hk
  obtain ⟨M2,hM2⟩:∃ M2,M2 = M.set i (dotL x c (j + 1)):=⟨_,rfl⟩;rw [← hM2] at arr3 hMl2 hd1' hMi' hd3';clear q1 q2 q3 hM2 hMi hd1 hd3 arr hMl hbi hb hrow hg hc sx hx
  repeat' (first | simp only [↓Zabr,↓Zabm,↓Zabo,↓Zabq,↓Zaag,↓Zabl,↓Zabn,↓Zaci,↓Zach,↓Zacb,↓Zaai,↓Zabz,↓Zaby,↓sxDL_binOp,↓Zabx,↓sxD_same,↓Zacn,↓Zaar,↓Zaaj,↓Zaaq,↓Zaat,↓Zaak,↓Zaao,↓Zack,↓bxPut,↓Zabj,↓Zabi,↓Zaaf,↓Zaae,↓Zabe,↓Zabd,↓Zaco,↓Zaba,↓Zaay,Zacj,Zaad,Zabc,Zacg,↓reduceIte,Nat.reduceEqDiff,Nat.reduceLT,dec_T,true_and,Zaaa,one1,Option.bind_some, *,ldI] | (with_reducible first | refine Zabu (by assumption) (by decide +kernel) ?_ | refine Zabt (by decide +kernel) ?_ | refine Zaca (by decide +kernel) ?_ | refine Zabv ?_))
  exact ⟨x.length - (j + 1),by omega,j + 1,M2,rfl,by omega,arr3,hMl2,hd1',hMi',hd3',rfl⟩
end Go.Proofs.YtdfjaoncabanbaaDoor

namespace Go.Proofs.YtdfjaoncabanbaaDoor
set_option maxRecDepth 10000

def rat (n d:Int):Int × Int:=(n / ((Nat.gcd d.natAbs n.natAbs:Nat):Int),d / ((Nat.gcd d.natAbs n.natAbs:Nat):Int))
end Go.Proofs.YtdfjaoncabanbaaDoor
namespace Go.Proofs.YtdfjaoncabanbaaDoor
open Go Go.AM
set_option maxRecDepth 10000

theorem faR0 (r o:Nat):aFieldAt Tryd.prog 24 0 (.pointer (some ⟨r,o,none⟩)) = some (.pointer (some ⟨r,o + 0,none⟩)):=by kernel_rfl
theorem faR1 (r o:Nat):aFieldAt Tryd.prog 24 1 (.pointer (some ⟨r,o,none⟩)) = some (.pointer (some ⟨r,o + 1,none⟩)):=by kernel_rfl
theorem ldRt (H:Heap) (r o:Nat):aLoad Tryd.prog H 24 (.pointer (some ⟨r,o,none⟩)) = (H.read r o 2).map fun l => .agg ⟨l⟩:=by kernel_rfl
theorem box2 (H:Heap) (a b:Int) (t:TypeId):∃ H1,H.newExact [.int .i64 a,.int .i64 b] t = H1 ∧ Keep H H1 ∧ H.size < H1.size ∧ Own H1 H.size t [.int .i64 a,.int .i64 b] ∧ H1.read H.size 0 2 = some [.int .i64 a,.int .i64 b] ∧ H1.read H.size 0 1 = some [.int .i64 a] ∧ H1.read H.size 1 1 = some [.int .i64 b]:=by
  obtain ⟨H1,e1,hK1,hz1,_,hr1⟩:=box1 H [.int .i64 a,.int .i64 b] t;exact ⟨H1,e1,hK1,hz1,e1 ▸ Own.new H _ _,hr1 0 2 (by show 0 + 2 ≤ 2; omega),hr1 0 1 (by show 0 + 1 ≤ 2; omega),hr1 1 1 (by show 1 + 1 ≤ 2; omega)⟩
theorem cells2 (l:List Value):(Value.agg ⟨l⟩).cells.toList = l:=rfl

variable {S:AM.Sys} (hS:Only S 5)
include hS

end Go.Proofs.YtdfjaoncabanbaaDoor
