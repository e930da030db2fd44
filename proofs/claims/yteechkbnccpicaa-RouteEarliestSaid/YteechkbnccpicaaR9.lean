/- The reference's Joins and Is. -/
import Derived.Test.YteechkbnccpicaaR3
import Derived.Test.YteechkbnccpicaaR7
set_option linter.unusedVariables false
set_option linter.unusedSimpArgs false
set_option linter.unusedSectionVars false

namespace Go.Proofs.Yteechkbnccpicaa
open Go Go.AM
set_option maxRecDepth 10000

def RsJ (ls:List Lg) (ch fr to at':Int) (js:List Int) (b:Bool):Prop:=
  (js.length = 0 → b = decide (fr = to)) ∧
  (js.length ≠ 0 → (b = true ↔ AllOk ls ch js js.length ∧ ((ls.getD (js.getD 0 0).toNat default).f = fr ∧ at' ≤ (ls.getD (js.getD 0 0).toNat default).d) ∧
    (ls.getD (js.getD (js.length - 1) 0).toNat default).t = to))
def PostR (H:Heap) (J:Bool → Prop) (u:Value) (H':Heap):Prop:=∃ b,u = .tuple ⟨[.bool b,.int .i64 0]⟩ ∧ Keep H H' ∧ J b
theorem PostR.no {H H':Heap} {ls:List Lg} {ch fr to at':Int} {js:List Int} {k:Nat} (hk:k < js.length) (h:¬ OkAt ls ch js k) (hK:Keep H H'):PostR H (RsJ ls ch fr to at' js) (.tuple ⟨[.bool false,.int .i64 0]⟩) H':=
  ⟨false,rfl,hK,fun h0 => absurd h0 (by omega),fun _ => ⟨fun hh => (by cases hh),fun hh => absurd (hh.1 k hk) h⟩⟩

variable {S:AM.Sys} (hS:Only S 11)
include hS

theorem joins_runs (x y:Lg) (ch:Int) (hf:Fit ch x) (H:Heap):∃ H',Keep H H' ∧ Runs Try.prog S (.fn 42) [.agg ⟨lc x⟩,.agg ⟨lc y⟩,.int .i64 ch] H (.bool (joinB ch x y)) H':=by
  suffices h:WCall Try.prog S (.fn 42) [.agg ⟨lc x⟩,.agg ⟨lc y⟩,.int .i64 ch] H (fun u H' => u = .bool (joinB ch x y) ∧ Keep H H') by
    obtain ⟨_,H',hr,rfl,hk⟩:=h; exact ⟨H',hk,hr⟩
  obtain ⟨H1,e1,hK1,g5,g0,g1,g2,g3,g4⟩:=boxG H x;obtain ⟨H2,e2,hK2,p5,p0,p1,p2,p3,p4⟩:=boxG H1 y;have hK:=hK1.trans hK2;have hz:H.size < H1.size:=by rw [← e1,size_new]; omega
  have q1:=hK2.read hz g1;have q3:=hK2.read hz g3;have q4:=hK2.read hz g4;have hw:IntKind.i64.wrap (x.a + ch) = x.a + ch:=IntWalk.i64_in _ (by have:=hf.1; have:=hf.2; omega)
  clear g0 g1 g2 g3 g4 g5 p5 hz hK1 hK2 hf;have hgo:∃ b,b = joinB ch x y:=⟨_,rfl⟩;obtain ⟨b,hb⟩:=hgo;rw [← hb];unfold joinB at hb;refine Zaba Try.func42 rfl (Nat.le_of_ble_eq_true rfl) (hS.no rfl _ _) ?_
  rw [Try.ntmps42,Try.results42]
  by_cases c2:x.t = y.f
  · by_cases c1:x.l = y.l
    · rw [if_pos c1] at hb
      by_cases c3:x.a ≤ y.d
      · replace hb:b = true:=by rw [hb]; exact decide_eq_true ⟨c2.symm,c3⟩
        repeat' simp only [↓Zaca,↓Zabx,↓Zabz,↓Zaai,↓Zaby,↓Zacw,↓Zacv,↓Zadb,↓Zaau,↓Zaam,↓bxOp_box,↓Zaat,↓Zaan,↓Zaaq,↓bxPut,↓Zabs,↓Zabt,↓Zabq,↓Zacz,↓Zada,↓Zadc,↓Zabg,↓Zabe,Zacx,Zaae,Zabi,Zacu,Zact,Zabm,↓reduceIte,Nat.reduceEqDiff,Nat.reduceLT,dec_T,dec_F,and_self,Nat.add_zero,one1,Option.bind_some,not_true_eq_false, *,argF,List.getD_cons_zero,List.getD_cons_succ,Zabb,faG0,faG1,faG2,faG3,faG4,ldC,one1]
      · replace hb:b = false:=by rw [hb]; exact decide_eq_false fun h => c3 h.2
        repeat' simp only [↓Zaca,↓Zabx,↓Zabz,↓Zaai,↓Zaby,↓Zacw,↓Zacv,↓Zadb,↓Zaau,↓Zaam,↓bxOp_box,↓Zaat,↓Zaan,↓Zaaq,↓bxPut,↓Zabs,↓Zabt,↓Zabq,↓Zacz,↓Zada,↓Zadc,↓Zabg,↓Zabe,Zacx,Zaae,Zabi,Zacu,Zact,Zabm,↓reduceIte,Nat.reduceEqDiff,Nat.reduceLT,dec_T,dec_F,and_self,Nat.add_zero,one1,Option.bind_some,not_true_eq_false, *,argF,List.getD_cons_zero,List.getD_cons_succ,Zabb,faG0,faG1,faG2,faG3,faG4,ldC,one1]
    · rw [if_neg c1] at hb
      by_cases c3:x.a + ch ≤ y.d
      · replace hb:b = true:=by rw [hb]; exact decide_eq_true ⟨c2.symm,c3⟩
        repeat' simp only [↓Zaca,↓Zabx,↓Zabz,↓Zaai,↓Zaby,↓Zacw,↓Zacv,↓Zadb,↓Zaau,↓Zaam,↓bxOp_box,↓Zaat,↓Zaan,↓Zaaq,↓bxPut,↓Zabs,↓Zabt,↓Zabq,↓Zacz,↓Zada,↓Zadc,↓Zabg,↓Zabe,Zacx,Zaae,Zabi,Zact,Zabm,↓reduceIte,Nat.reduceEqDiff,Nat.reduceLT,dec_T,dec_F,and_self,Nat.add_zero,one1,Option.bind_some,not_true_eq_false, *,argF,List.getD_cons_zero,List.getD_cons_succ,Zabb,faG0,faG1,faG2,faG3,faG4,ldC,one1]
      · replace hb:b = false:=by rw [hb]; exact decide_eq_false fun h => c3 h.2
        repeat' simp only [↓Zaca,↓Zabx,↓Zabz,↓Zaai,↓Zaby,↓Zacw,↓Zacv,↓Zadb,↓Zaau,↓Zaam,↓bxOp_box,↓Zaat,↓Zaan,↓Zaaq,↓bxPut,↓Zabs,↓Zabt,↓Zabq,↓Zacz,↓Zada,↓Zadc,↓Zabg,↓Zabe,Zacx,Zaae,Zabi,Zact,Zabm,↓reduceIte,Nat.reduceEqDiff,Nat.reduceLT,dec_F,and_self,Nat.add_zero,one1,Option.bind_some,not_true_eq_false, *,argF,List.getD_cons_zero,List.getD_cons_succ,Zabb,faG0,faG1,faG2,faG3,faG4,ldC,one1]
  · replace hb:b = false:=by rw [hb]; exact decide_eq_false fun h => c2 h.1.symm
    repeat' simp only [↓Zaca,↓Zabx,↓Zabz,↓Zaai,↓Zaby,↓Zacw,↓Zacv,↓Zadb,↓Zaau,↓Zaam,↓bxOp_box,↓Zaat,↓Zaan,↓Zaaq,↓bxPut,↓Zabs,↓Zabt,↓Zabq,↓Zacz,↓Zada,↓Zadc,↓Zabg,↓Zabe,Zacx,Zaae,Zabi,Zacu,Zabm,↓reduceIte,Nat.reduceEqDiff,Nat.reduceLT,dec_T,and_self,Nat.add_zero,one1,Option.bind_some,not_false_eq_true, *,argF,List.getD_cons_zero,List.getD_cons_succ,Zabb,faG0,faG1,ldC,one1]
end Go.Proofs.Yteechkbnccpicaa

namespace Go.Proofs.Yteechkbnccpicaa
open Go Go.AM
set_option maxRecDepth 10000

theorem ldBo (H:Heap) (r o:Nat):aLoad Try.prog H 4 (.pointer (some ⟨r,o,none⟩)) = (H.read r o 1).bind one1:=by kernel_rfl
theorem ixB (r o n c:Nat) (k:IntKind) (i:Int):Zaaa Try.prog 58 (.slice (some ⟨r,o,none⟩) n c) (.int k i) = if 0 ≤ i ∧ i < (n:Int) then some (.pointer (some ⟨r,o + i.toNat * 1,none⟩)) else none:=by kernel_rfl
theorem ixBn {r n k:Nat} (h:k < n):Zaaa Try.prog 58 (.slice (some ⟨r,0,none⟩) n n) (.int .i64 (k:Int)) = some (.pointer (some ⟨r,k,none⟩)):=by
  rw [ixB,if_pos ⟨by omega,by omega⟩,Int.toNat_natCast,Nat.mul_one,Nat.zero_add]
def bvs (w:List Bool):List Value:=w.map fun z => .bool z
theorem bvs_len (w:List Bool):(bvs w).length = w.length:=by simp [bvs]
theorem splice_mapB {w:List Bool} {o:Nat} (ho:o < w.length) {z:Bool}:splice (bvs w) o [.bool z] = bvs (w.set o z):=by
  unfold splice bvs;rw [List.map_set];apply List.ext_getElem?;intro i;simp only [List.length_cons,List.length_nil];rw [List.getElem?_set];rcases Nat.lt_trichotomy i o with h | h | h
  · rw [List.getElem?_append_left (by simp; omega),List.getElem?_take,if_pos h,if_neg (by omega)]
  · subst h;rw [List.getElem?_append_right (by simp; omega),if_pos rfl,if_pos (by simpa using ho)]
    rw [List.length_take,List.length_map,Nat.min_eq_left (Nat.le_of_lt ho),Nat.sub_self]; rfl
  · rw [List.getElem?_append_right (by simp; omega),if_neg (by omega),List.getElem?_append_right (by simp; omega),List.getElem?_drop]
    congr 1;simp; omega
theorem storeB {H:Heap} {r:Nat} {w:List Bool} (ow:Own H r 4 (bvs w)) (z:Bool) {o:Nat} (ho:o < w.length) :
    ∃ H2,aStore Try.prog H 4 (.pointer (some ⟨r,o,none⟩)) (.bool z) = some H2 ∧ Own H2 r 4 (bvs (w.set o z)) ∧ (∀ r' e' c',r' ≠ r → Own H r' e' c' → Own H2 r' e' c') ∧ (∀ H0,Keep H0 H → H0.size ≤ r → Keep H0 H2):=by
  obtain ⟨H2,h1,h2,h3,h4,h5⟩:=ow.store (P:=Try.prog) (t:=4) (i:=Try.t4) (by kernel_rfl) (v:=.bool z) (new:=[.bool z]) rfl (by kernel_rfl) rfl (o:=o) (by rw [bvs_len]; show o + 1 ≤ w.length; omega)
  rw [splice_mapB ho] at h2;exact ⟨H2,h1,h2,h4,h5⟩
theorem readB {H:Heap} {r:Nat} {w:List Bool} (ow:Own H r 4 (bvs w)) {k:Nat} (hk:k < w.length):H.read r k 1 = some [.bool (w.getD k false)]:=by
  rw [ow.read (o:=k) (n:=1) (by rw [bvs_len]; omega)]
  unfold bvs;rw [← List.map_drop,← List.map_take,List.drop_eq_getElem_cons hk,List.getD_eq_getElem?_getD,List.getElem?_eq_getElem hk];rfl
theorem mkB (H:Heap) {l:Int} (h0:0 ≤ l) (h1:l ≤ 268435456):aMakeSlice Try.prog H 58 (.int .i64 l) (.int .i64 l) = some (.slice (some ⟨H.size,0,none⟩) l.toNat l.toNat,H.newExact (bvs (List.replicate l.toNat false)) 4):=by
  have h2:=makeSlice_eq (P:=Try.prog) (t:=58) (e:=4) (inf:=Try.t4) (z:=.bool false) Try.underlying58 (by kernel_rfl) (by kernel_rfl) rfl (by kernel_rfl) (of_decide_eq_true (by kernel_rfl)) H .i64 .i64 h0 h1
  rw [h2];have h3:Try.t4.size = 1:=by kernel_rfl
  rw [h3,Nat.mul_one];unfold bvs;rw [List.map_replicate];rfl
theorem mkBn (H:Heap) {n:Nat} (h:n ≤ 60):∃ H2,aMakeSlice Try.prog H 58 (.int .i64 (n:Int)) (.int .i64 (n:Int)) = some (.slice (some ⟨H.size,0,none⟩) n n,H2) ∧ Keep H H2 ∧ Own H2 H.size 4 (bvs (List.replicate n false)):=by
  have h1:=mkB H (l:=(n:Int)) (by omega) (by omega)
  rw [Int.toNat_natCast] at h1;exact ⟨_,h1,Keep.newExact _ _ _,Own.new _ _ _⟩
variable {S:AM.Sys} (hS:Only S 11)
include hS

theorem rLeaving_runs (ls:List Lg) (v:Value) (r o:Nat) (fr at':Int) (H:Heap) (hl:SlG H v ls r o) (h60:ls.length ≤ 60) :
    ∃ H' w,Runs Try.prog S (.fn 33) [v,.int .i64 fr,.int .i64 at'] H (.slice (some ⟨H.size,0,none⟩) ls.length ls.length) H' ∧ Keep H H' ∧ Own H' H.size 4 (bvs w) ∧ w.length = ls.length ∧ ∀ j,j < ls.length → (w.getD j false = true ↔ BegB fr at' (ls.getD j default)):=by
  suffices h:WCall Try.prog S (.fn 33) [v,.int .i64 fr,.int .i64 at'] H (fun u H' => u = .slice (some ⟨H.size,0,none⟩) ls.length ls.length ∧ ∃ w:List Bool,Keep H H' ∧ Own H' H.size 4 (bvs w) ∧ w.length = ls.length ∧ ∀ j,j < ls.length → (w.getD j false = true ↔ BegB fr at' (ls.getD j default))) by
    obtain ⟨_,H',hr,rfl,w,h1,h2,h3,h4⟩:=h; exact ⟨H',w,hr,h1,h2,h3,h4⟩
  have hlv:=hl.v0;obtain ⟨a,c,rfl⟩:=hlv;have hob:=mkBn H h60;obtain ⟨H1,mk1,k1,o1⟩:=hob;refine Zaba Try.func33 rfl (Nat.le_of_ble_eq_true rfl) (hS.no rfl _ _) ?_
  rw [Try.ntmps33,Try.results33]
  repeat' simp only [↓Zabx,↓Zabz,↓Zaaj,↓Zabu,↓Zaby,↓Zacw,↓Zacv,↓Zadb,↓Zaau,↓Zaam,↓bxOp_makeSlice,↓Zaas,↓bxPut,↓Zabs,↓Zabq,↓Zacz,↓Zada,↓Zadc,↓Zabg,↓Zabe,Zacx,Zabm,↓reduceIte,Nat.reduceEqDiff,Nat.reduceLT, *,argF,List.getD_cons_zero,lenG]
  refine sxL_of (fun m ρ X => ∃ (k:Nat) (w:List Bool),m = ls.length - k ∧ k ≤ ls.length ∧ Keep H X ∧ Own X H.size 4 (bvs w) ∧ w.length = ls.length ∧ (∀ j,j < k → (w.getD j false = true ↔ BegB fr at' (ls.getD j default))) ∧ ρ 0 = .slice a ls.length c ∧ ρ 1 = .int .i64 fr ∧ ρ 2 = .int .i64 at' ∧ ρ 7 = .slice (some ⟨H.size,0,none⟩) ls.length ls.length ∧ ρ 8 = .int .i64 (k:Int))
    ⟨0,List.replicate ls.length false,rfl,Nat.zero_le _,k1,o1,by simp,fun j hj => absurd hj (Nat.not_lt_zero j),rfl,rfl,rfl,rfl,rfl⟩ ?_
  clear mk1 k1 o1;rintro m ρ X ⟨k,w,rfl,hk,kX,oX,hw,hdn,e0,e1,e2,e7,e8⟩
  by_cases hlt:k < ls.length
  case neg =>
    have hlt':¬ (k:Int) < (ls.length:Int):=by omega
    have hke:k = ls.length:=Nat.le_antisymm hk (Nat.not_lt.1 hlt);rw [hke] at hdn;have hpost:∃ w:List Bool,Keep H X ∧ Own X H.size 4 (bvs w) ∧ w.length = ls.length ∧ ∀ j,j < ls.length → (w.getD j false = true ↔ BegB fr at' (ls.getD j default)):=⟨w,kX,oX,hw,hdn⟩;clear hke hlt hdn hl kX oX hw
    repeat' simp only [↓Zaca,↓Zabx,↓Zabz,↓Zaai,↓Zabu,↓Zabw,↓Zacw,↓Zacv,↓Zadb,↓Zaaz,↓Zaau,↓Zaam,↓Zaav,↓Zaat,↓Zaaw,↓Zaan,↓Zaaq,↓Zaar,↓Zaas,↓Zacy,↓bxPut,↓Zabs,↓Zabr,↓Zaag,↓Zaaf,↓Zabk,↓Zabj,↓Zadc,↓Zabg,↓Zabe,↓dstAt,↓Zabh,Zacx,Zaae,Zabi,Zact,↓reduceIte,Nat.reduceEqDiff,Nat.reduceLT,dec_F,and_self, *,lenG]
  have hlt':(k:Int) < (ls.length:Int):=by omega
  have hwk:IntKind.i64.wrap ((k:Int) + 1) = ((k + 1:Nat):Int):=IntWalk.i64_in _ (by omega)
  have hob:=SlG_at (hl.keep kX) hlt;obtain ⟨q,hix,_,rf,_,rd,_,_⟩:=hob;have hix2:=ixBn (r:=H.size) hlt;have hst:∀ z:Bool,(z = true ↔ BegB fr at' (ls.getD k default)) → ∃ Y,aStore Try.prog X 4 (.pointer (some ⟨H.size,k,none⟩)) (.bool z) = some Y ∧ Keep H Y ∧ Own Y H.size 4 (bvs (w.set k z)) ∧ (w.set k z).length = ls.length ∧ ∀ j,j < k + 1 → ((w.set k z).getD j false = true ↔ BegB fr at' (ls.getD j default)):=fun z hz => by
    obtain ⟨Y,h1,h2,_,h4⟩:=storeB oX z (o:=k) (by omega)
    refine ⟨Y,h1,h4 H kX (Nat.le_refl _),h2,by rw [List.length_set]; exact hw,fun j hj => ?_⟩
    by_cases hjk:j = k
    · subst hjk; rw [setD_same (by omega)]; exact hz
    · rw [setD_other hjk]; exact hdn j (by omega)
  by_cases h1:(ls.getD k default).f = fr
  · have d1:decide ((ls.getD k default).f = fr) = true:=decide_eq_true h1
    by_cases h2:at' ≤ (ls.getD k default).d
    · have d2:decide (at' ≤ (ls.getD k default).d) = true:=decide_eq_true h2;have hob:=hst true ⟨fun _ => ⟨h1,h2⟩,fun _ => rfl⟩
      obtain ⟨Y,st,kY,oY,hwY,hdY⟩:=hob;clear hst hdn hl kX oX hw h1 h2
      repeat' simp only [↓Zaca,↓Zabx,↓Zabz,↓Zaai,↓Zabu,↓Zabw,↓Zacw,↓Zacv,↓Zadb,↓Zaaz,↓Zaau,↓Zaam,↓Zaav,↓Zaat,↓Zaaw,↓Zaan,↓Zaaq,↓Zaar,↓Zaas,↓Zacy,↓bxPut,↓Zabs,↓Zabr,↓Zaag,↓Zaaf,↓Zabk,↓Zabj,↓Zadc,↓Zabg,↓Zabe,↓dstAt,↓Zabh,Zacx,Zaae,Zabi,Zaad,Zacs,Zacu,↓reduceIte,Nat.reduceEqDiff,Nat.reduceLT,dec_T,true_and,Nat.add_zero,one1,Option.bind_some, *,lenG,ldC,faG0,faG2,one1]
      exact ⟨ls.length - (k + 1),by omega,k + 1,_,rfl,by omega,oY,hwY,hdY,rfl⟩
    · have d2:decide (at' ≤ (ls.getD k default).d) = false:=decide_eq_false h2;have hob:=hst false ⟨fun h => (by cases h),fun h => absurd h.2 h2⟩
      obtain ⟨Y,st,kY,oY,hwY,hdY⟩:=hob;clear hst hdn hl kX oX hw h1 h2
      repeat' simp only [↓Zaca,↓Zabx,↓Zabz,↓Zaai,↓Zabu,↓Zabw,↓Zacw,↓Zacv,↓Zadb,↓Zaaz,↓Zaau,↓Zaam,↓Zaav,↓Zaat,↓Zaaw,↓Zaan,↓Zaaq,↓Zaar,↓Zaas,↓Zacy,↓bxPut,↓Zabs,↓Zabr,↓Zaag,↓Zaaf,↓Zabk,↓Zabj,↓Zadc,↓Zabg,↓Zabe,↓dstAt,↓Zabh,Zacx,Zaae,Zabi,Zaad,Zacs,Zacu,↓reduceIte,Nat.reduceEqDiff,Nat.reduceLT,dec_T,true_and,Nat.add_zero,one1,Option.bind_some, *,lenG,ldC,faG0,faG2,one1]
      exact ⟨ls.length - (k + 1),by omega,k + 1,_,rfl,by omega,oY,hwY,hdY,rfl⟩
  · have d1:decide ((ls.getD k default).f = fr) = false:=decide_eq_false h1;have hob:=hst false ⟨fun h => (by cases h),fun h => absurd h.1 h1⟩
    obtain ⟨Y,st,kY,oY,hwY,hdY⟩:=hob;clear hst hdn hl kX oX hw h1
    repeat' simp only [↓Zaca,↓Zabx,↓Zabz,↓Zaai,↓Zabu,↓Zabw,↓Zacw,↓Zacv,↓Zadb,↓Zaaz,↓Zaau,↓Zaam,↓Zaav,↓Zaat,↓Zaaw,↓Zaan,↓Zaaq,↓Zaar,↓Zaas,↓Zacy,↓bxPut,↓Zabs,↓Zabr,↓Zaag,↓Zaaf,↓Zabk,↓Zabj,↓Zadc,↓Zabg,↓Zabe,↓dstAt,↓Zabh,Zacx,Zaae,Zabi,Zaac,Zacr,Zacu,↓reduceIte,Nat.reduceEqDiff,Nat.reduceLT,dec_T,true_and,Nat.add_zero,one1,Option.bind_some, *,lenG,ldC,faG0,one1]
    exact ⟨ls.length - (k + 1),by omega,k + 1,_,rfl,by omega,oY,hwY,hdY,rfl⟩
end Go.Proofs.Yteechkbnccpicaa

namespace Go.Proofs.Yteechkbnccpicaa
open Go Go.AM
set_option maxRecDepth 10000

def lexB:List Nat → List Nat → Bool
  | a :: x,b :: y => if a = b then lexB x y else decide (a < b)
  | _,_ => false
theorem lexB_iff:∀ {x y:List Nat},x.length = y.length → (lexB x y = true ↔ ¬ lexle y x)
  | [],[],_ => by simp [lexB,lexle]
  | [],_ :: _,h => by simp at h
  | _ :: _,[],h => by simp at h
  | a :: x,b :: y,h => by
    have ih:=lexB_iff (x:=x) (y:=y) (by simpa using h)
    show (if a = b then lexB x y else decide (a < b)) = true ↔ ¬ (b < a ∨ (b = a ∧ lexle y x))
    by_cases hab:a = b
    · rw [if_pos hab,ih];constructor
      · intro h1 h2;rcases h2 with h2 | h2
        · omega
        · exact h1 h2.2
      · exact fun h1 h2 => h1 (.inr ⟨hab.symm,h2⟩)
    · rw [if_neg hab,decide_eq_true_iff];constructor
      · intro h1 h2; omega
      · intro h1;rcases Nat.lt_or_ge a b with h2 | h2
        · exact h2
        · exact absurd (.inl (by omega)) h1
def LvJ (ls:List Lg) (ch:Int) (B:Lg → Prop) (k i:Nat) (x:List Nat):Prop:=
  (x = [] ∧ ∀ j s,Ch ls ch j s → B (ls.getD j default) → lastN j s = i → s.length ≠ k) ∨
  ∃ j s,x = j :: s ∧ Ch ls ch j s ∧ B (ls.getD j default) ∧ lastN j s = i ∧ s.length = k ∧ ∀ j' s',Ch ls ch j' s' → B (ls.getD j' default) → lastN j' s' = i → s'.length = k → lexle (j :: s) (j' :: s')
def LevR (ls:List Lg) (ch:Int) (B:Lg → Prop) (k:Nat) (w:List (List Nat)):Prop:=w.length = ls.length ∧ ∀ i,i < ls.length → LvJ ls ch B k i (w.getD i [])
def GrI (ls:List Lg) (ch:Int) (pw:List (List Nat)) (i q:Nat) (x:List Nat):Prop:=
  (x = [] ∧ ∀ p,p < q → pw.getD p [] ≠ [] → ¬ jn ls ch p i) ∨
  ∃ p,p < q ∧ pw.getD p [] ≠ [] ∧ jn ls ch p i ∧ x = pw.getD p [] ++ [i] ∧ ∀ p',p' < q → pw.getD p' [] ≠ [] → jn ls ch p' i → lexle x (pw.getD p' [] ++ [i])
variable {ls:List Lg} {ch:Int} {B:Lg → Prop}
theorem LvJ.len {k i:Nat} {x:List Nat} (h:LvJ ls ch B k i x) (hx:x ≠ []):x.length = k + 1:=by
  rcases h with ⟨h,_⟩ | ⟨j,s,rfl,_,_,_,h,_⟩
  · exact absurd h hx
  · simp [h]
theorem GrI.zero {pw:List (List Nat)} {i:Nat}:GrI ls ch pw i 0 []:=.inl ⟨rfl,fun p hp => absurd hp (Nat.not_lt_zero p)⟩
theorem GrI.skip {pw:List (List Nat)} {i q:Nat} {x:List Nat} (h:GrI ls ch pw i q x) (hn:pw.getD q [] ≠ [] → ¬ jn ls ch q i):GrI ls ch pw i (q + 1) x:=by
  rcases h with ⟨h1,h2⟩ | ⟨p,h1,h2,h3,h4,h5⟩
  · refine .inl ⟨h1,fun p hp h3 => ?_⟩
    rcases Nat.lt_or_ge p q with h | h
    · exact h2 p h h3
    · have:p = q:=by omega
      subst this; exact hn h3
  · refine .inr ⟨p,by omega,h2,h3,h4,fun p' hp h6 h7 => ?_⟩
    rcases Nat.lt_or_ge p' q with h | h
    · exact h5 p' h h6 h7
    · have:p' = q:=by omega
      subst this; exact absurd h7 (hn h6)
theorem GrI.first {pw:List (List Nat)} {i q:Nat} (h:GrI ls ch pw i q []) (hq:pw.getD q [] ≠ []) (hj:jn ls ch q i):GrI ls ch pw i (q + 1) (pw.getD q [] ++ [i]):=by
  rcases h with ⟨h1,h2⟩ | ⟨p,_,_,_,h4,_⟩
  · refine .inr ⟨q,by omega,hq,hj,rfl,fun p' hp h6 h7 => ?_⟩
    rcases Nat.lt_or_ge p' q with h | h
    · exact absurd h7 (h2 p' h h6)
    · have:p' = q:=by omega
      subst this; exact lexle.refl _
  · simp at h4
theorem GrI.less {pw:List (List Nat)} {i q:Nat} {x:List Nat} (h:GrI ls ch pw i q x) (hq:pw.getD q [] ≠ []) (hj:jn ls ch q i) (hl:lexle (pw.getD q [] ++ [i]) x):GrI ls ch pw i (q + 1) (pw.getD q [] ++ [i]):=by
  rcases h with ⟨h1,h2⟩ | ⟨p,h1,h2,h3,h4,h5⟩
  · subst h1; exact GrI.first (.inl ⟨rfl,h2⟩) hq hj
  · refine .inr ⟨q,by omega,hq,hj,rfl,fun p' hp h6 h7 => ?_⟩
    rcases Nat.lt_or_ge p' q with h | h
    · exact hl.trans (h5 p' h h6 h7)
    · have:p' = q:=by omega
      subst this; exact lexle.refl _
theorem GrI.stay {pw:List (List Nat)} {i q:Nat} {x:List Nat} (h:GrI ls ch pw i q x) (hx:x ≠ []) (hl:lexle x (pw.getD q [] ++ [i])):GrI ls ch pw i (q + 1) x:=by
  rcases h with ⟨h1,_⟩ | ⟨p,h1,h2,h3,h4,h5⟩
  · exact absurd h1 hx
  · refine .inr ⟨p,by omega,h2,h3,h4,fun p' hp h6 h7 => ?_⟩
    rcases Nat.lt_or_ge p' q with h | h
    · exact h5 p' h h6 h7
    · have:p' = q:=by omega
      subst this; exact hl
theorem GrI.done {pw:List (List Nat)} {k i:Nat} {x:List Nat} (hpw:LevR ls ch B k pw) (hi:i < ls.length) (h:GrI ls ch pw i ls.length x):LvJ ls ch B (k + 1) i x:=by
  have hpre:∀ j s,Ch ls ch j s → B (ls.getD j default) → lastN j s = i → s.length = k + 1 → ∃ s',s = s' ++ [i] ∧ Ch ls ch j s' ∧ s'.length = k ∧ jn ls ch (lastN j s') i:=fun j s h1 h2 h3 h4 => by
    rcases List.eq_nil_or_concat s with rfl | ⟨s',q,rfl⟩
    · simp at h4
    · rw [List.concat_eq_append] at h1 h3 h4 ⊢;rw [lastN_snoc] at h3;subst h3;obtain ⟨k1,k2,k3⟩:=Ch.snoc.1 h1;exact ⟨s',rfl,k1,by simpa using h4,k2⟩
  rcases h with ⟨h1,h2⟩ | ⟨p,h1,h2,h3,h4,h5⟩
  · refine .inl ⟨h1,fun j s g1 g2 g3 g4 => ?_⟩
    obtain ⟨s',rfl,e1,e2,e3⟩:=hpre j s g1 g2 g3 g4;have hlt:=e1.last_lt;rcases hpw.2 _ hlt with ⟨_,f2⟩ | ⟨j2,s2,f1,_⟩
    · exact f2 j s' e1 g2 rfl e2
    · exact h2 _ hlt (by rw [f1]; simp) e3
  · rcases hpw.2 p h1 with ⟨f1,_⟩ | ⟨j,s,f1,f2,f3,f4,f5,f6⟩
    · exact absurd f1 h2
    · refine .inr ⟨j,s ++ [i],by rw [h4,f1]; rfl,Ch.snoc.2 ⟨f2,by rw [f4]; exact h3,hi⟩,f3,lastN_snoc,by simp [f5],fun j' s' g1 g2 g3 g4 => ?_⟩
      obtain ⟨s2,rfl,e1,e2,e3⟩:=hpre j' s' g1 g2 g3 g4;have hlt:=e1.last_lt;rcases hpw.2 _ hlt with ⟨_,k2⟩ | ⟨j3,s3,k1,k2,k3,k4,k5,k6⟩
      · exact absurd e2 (k2 j' s2 e1 g2 rfl)
      · have h6:=h5 _ hlt (by rw [k1]; simp) e3
        have h7:=k6 j' s2 e1 g2 rfl e2;rw [k1,h4,f1] at h6;have h8:lexle ((j3 :: s3) ++ [i]) ((j' :: s2) ++ [i]):=(lexle.snoc (by simp [k5,e2])).2 h7
        exact h6.trans h8
/-! In memory. -/
def jE:Enc (List Nat) where
  sz:=1
  At:=fun H x cs => (sliceE (intE .i64)).At H (castL x) cs ∧ (x = [] → cs = [.slice none 0 0]) ∧ (x ≠ [] → ∃ a n c,cs = [.slice (some a) n c])
  len:=fun h => (sliceE (intE .i64)).len h.1
  keep:=fun hk h => ⟨(sliceE (intE .i64)).keep hk h.1,h.2⟩
theorem stable_j:Stable jE 0:=fun hk h => ⟨stable_slice (stable_int _ _) hk h.1,h.2⟩
def CelL (L:Nat) (X:Heap) (v:Value) (x:List Nat):Prop:=(x = [] ∧ v = .slice none 0 0) ∨ (x ≠ [] ∧ JL L X v x ∧ x.length ≤ 100000 ∧ ∀ i ∈ x,i ≤ 1000)
theorem CelL.keep {L:Nat} {X Y:Heap} {v:Value} {x:List Nat} (h:CelL L X v x) (k:Keep X Y):CelL L Y v x:=by
  rcases h with h | ⟨h1,h2,h3⟩
  · exact .inl h
  · exact .inr ⟨h1,h2.keep k,h3⟩
theorem lst_keepXJ {x L:Nat} {H H':Heap} {v:Value} {w:List Int} (h:LstG (intE .i64) 3 L H v w) (hk:KeepX x H H') (hL:x < L):LstG (intE .i64) 3 L H' v w:=by
  rcases h with h | ⟨b,r,cells,h1,h2,h3,h4,h5,h6,h7⟩
  · exact .inl h
  · have hm:=hk.mem (2 * b + 1) (by omega)
    refine .inr ⟨b,r,cells,h1,Nat.lt_of_lt_of_le h2 hk.size,⟨?_,by rw [hm]; exact h3.mem,Nat.lt_of_lt_of_le h3.lt hk.size,h3.ge⟩,fun q hq => ?_,h5,h6,h7⟩
    · exact (hk.row r _ (by have:=h3.ge; omega) h3.lt h3.get).1
    · rw [hm] at hq;obtain ⟨row,k1,k2,k3,k4,k5⟩:=h4 q hq;exact ⟨row,(hk.row q row (by omega) k4 k1).1,k2,k3,Nat.lt_of_lt_of_le k4 hk.size,k5⟩
theorem CelL.keepX {nr:Nat} {X Y:Heap} {v:Value} {x:List Nat} (h:CelL (nr + 1) X v x) (k:KeepX nr X Y):CelL (nr + 1) Y v x:=by
  rcases h with h | ⟨h1,h2,h3⟩
  · exact .inl h
  · refine .inr ⟨h1,?_,h3⟩;rcases h2 with ⟨i,r,e1,e2,e3,e4,e5⟩ | ⟨e1,e2⟩
    · exact .inl ⟨i,r,e1,e2,e3,e4,⟨(k.row r _ (by omega) e5.lt e5.get).1,Nat.lt_of_lt_of_le e5.lt k.size⟩⟩
    · exact .inr ⟨e1,lst_keepXJ e2 k (Nat.lt_succ_self _)⟩
theorem CelL.at {L:Nat} {X:Heap} {v:Value} {x:List Nat} (h:CelL L X v x):jE.At X x [v]:=by
  rcases h with ⟨rfl,rfl⟩ | ⟨h1,h2,h3,h4⟩
  · exact ⟨⟨_,0,0,rfl,nilI X⟩,fun _ => rfl,fun h => absurd rfl h⟩
  · obtain ⟨r,hs⟩:=h2.sl h3 h4;refine ⟨⟨_,r,0,rfl,hs⟩,fun h => absurd h h1,fun _ => ?_⟩
    obtain ⟨a,c,e,ha⟩:=hs.isv;have hp:0 < (castL x).length:=by rw [castL_len]; exact List.length_pos_iff.2 h1
    rw [ha hp] at e;exact ⟨_,_,_,by rw [e]⟩
structure RW (A X:Heap) (nr:Nat) (w:List (List Nat)) (n:Nat):Prop where
  keep:Keep A X
  len:w.length = n
  row:∃ vals:List Value,vals.length = n ∧ Own X nr 25 vals ∧ ∀ i,i < n → CelL (nr + 1) X (vals.getD i (.slice none 0 0)) (w.getD i [])
theorem RW.more {A X Y:Heap} {nr n:Nat} {w:List (List Nat)} (h:RW A X nr w n) (k:Keep X Y):RW A Y nr w n:=⟨h.keep.trans k,h.len,by
  obtain ⟨vals,h1,h2,h3⟩:=h.row
  exact ⟨vals,h1,h2.keep k,fun i hi => (h3 i hi).keep k⟩⟩
theorem read_v {X:Heap} {nr:Nat} {vals:List Value} (o:Own X nr 25 vals) {i:Nat} (hi:i < vals.length):X.read nr i 1 = some [vals.getD i (.slice none 0 0)]:=by
  rw [o.read (o:=i) (n:=1) (by omega),List.drop_eq_getElem_cons hi,List.getD_eq_getElem?_getD,List.getElem?_eq_getElem hi]; rfl
theorem RW.get {A X:Heap} {nr n:Nat} {w:List (List Nat)} (h:RW A X nr w n) {i:Nat} (hi:i < n):∃ v,X.read nr i 1 = some [v] ∧ CelL (nr + 1) X v (w.getD i []):=by
  obtain ⟨vals,h1,h2,h3⟩:=h.row;exact ⟨_,read_v h2 (by omega),h3 i hi⟩
theorem splice_one {vals:List Value} {o:Nat} (ho:o < vals.length) (v:Value):splice vals o [v] = vals.set o v:=by
  unfold splice;apply List.ext_getElem?;intro i;simp only [List.length_cons,List.length_nil];rw [List.getElem?_set];rcases Nat.lt_trichotomy i o with h | h | h
  · rw [List.getElem?_append_left (by simp; omega),List.getElem?_take,if_pos h,if_neg (by omega)]
  · subst h;rw [List.getElem?_append_right (by simp; omega),if_pos rfl,if_pos ho]
    rw [List.length_take,Nat.min_eq_left (Nat.le_of_lt ho),Nat.sub_self]; rfl
  · rw [List.getElem?_append_right (by simp; omega),if_neg (by omega),List.getElem?_append_right (by simp; omega),List.getElem?_drop]
    congr 1;simp; omega
theorem RW.set {A X:Heap} {nr n:Nat} {w:List (List Nat)} (h:RW A X nr w n) (hg:Grp A) (hr:A.size ≤ nr) {i:Nat} (hi:i < n) {v:Value} {x:List Nat} (hc:CelL (nr + 1) X v x) {a:Option Addr} {m c:Nat} (hv:v = .slice a m c) :
    ∃ Y,aStore Try.prog X 25 (.pointer (some ⟨nr,i,none⟩)) v = some Y ∧ RW A Y nr (w.set i x) n:=by
  obtain ⟨vals,h1,h2,h3⟩:=h.row;subst hv;obtain ⟨Y,k1,k2,k3,_⟩:=h2.storeX (P:=Try.prog) (t:=25) (i:=Try.t25) (by kernel_rfl) (v:=.slice a m c) (new:=[.slice a m c]) rfl (by kernel_rfl) rfl (o:=i) (by show i + 1 ≤ vals.length; omega)
  rw [splice_one (by omega)] at k2
  refine ⟨Y,k1,k3.base A hg h.keep hr,by rw [List.length_set]; exact h.len,_,by rw [List.length_set]; exact h1,k2,fun j hj => ?_⟩
  by_cases hij:i = j
  · subst hij;rw [List.getD_eq_getElem?_getD,List.getElem?_set_self (by omega),List.getD_eq_getElem?_getD,List.getElem?_set_self (by have:=h.len; omega)]
    exact hc.keepX k3
  · rw [List.getD_eq_getElem?_getD,List.getElem?_set_ne hij,← List.getD_eq_getElem?_getD,setD_other (Ne.symm hij)];exact (h3 j hj).keepX k3
theorem RW.sl {A X:Heap} {nr n:Nat} {w:List (List Nat)} (h:RW A X nr w n) (hn:n ≤ 1000):SlE jE X (.slice (some ⟨nr,0,none⟩) w.length w.length) w nr 0:=by
  obtain ⟨vals,h1,h2,h3⟩:=h.row;have hl:=h.len;refine ⟨⟨_,_,rfl,fun _ => rfl⟩,fun i hi => ⟨_,?_,(h3 i (by omega)).at⟩,fun _ => h2.lt,by have:Go.maxLen = 9223372036854775807:=rfl; omega⟩
  have h4:=read_v h2 (i:=i) (by omega)
  rwa [show 0 + i * jE.sz = i by show 0 + i * 1 = i; omega]
theorem mkJ (H:Heap) {n:Nat} (h:n ≤ 60):∃ H2,aMakeSlice Try.prog H 83 (.int .i64 (n:Int)) (.int .i64 (n:Int)) = some (.slice (some ⟨H.size,0,none⟩) n n,H2) ∧ RW H H2 H.size (List.replicate n []) n:=by
  have h2:=makeSlice_eq (P:=Try.prog) (t:=83) (e:=25) (inf:=Try.t25) (z:=.slice none 0 0) Try.underlying83 (by kernel_rfl) (by kernel_rfl) rfl (by kernel_rfl) (of_decide_eq_true (by kernel_rfl)) H .i64 .i64 (l:=(n:Int)) (by omega) (by omega)
  have h3:Try.t25.size = 1:=by kernel_rfl
  rw [h3,Nat.mul_one,Int.toNat_natCast] at h2;refine ⟨_,h2,Keep.newExact _ _ _,by simp,List.replicate n (.slice none 0 0),by simp,Own.new _ _ _,fun i hi => ?_⟩
  have e1:(List.replicate n (Value.slice none 0 0)).getD i (.slice none 0 0) = .slice none 0 0:=by rw [List.getD_eq_getElem?_getD,List.getElem?_replicate]; split <;> rfl
  have e2:(List.replicate n ([] : List Nat)).getD i [] = []:=by rw [List.getD_eq_getElem?_getD,List.getElem?_replicate]; split <;> rfl
  rw [e1,e2];exact .inl ⟨rfl,rfl⟩
theorem eqNil (a:Addr) (n c:Nat):binP Try.prog .eql 25 (.slice (some a) n c) (.slice none 0 0) = some (.bool false):=by kernel_rfl
theorem eqNil0:binP Try.prog .eql 25 (.slice none 0 0) (.slice none 0 0) = some (.bool true):=by kernel_rfl
theorem neNil (a:Addr) (n c:Nat):binP Try.prog .neq 25 (.slice (some a) n c) (.slice none 0 0) = some (.bool true):=by kernel_rfl
theorem neNil0:binP Try.prog .neq 25 (.slice none 0 0) (.slice none 0 0) = some (.bool false):=by kernel_rfl
theorem lenJ (a:Option Addr) (n c:Nat):aLen Try.prog #[83] (.slice a n c) = some (.int .i64 n):=by kernel_rfl
theorem lenJJ (a:Option Addr) (n c:Nat):aLen Try.prog #[56] (.slice a n c) = some (.int .i64 n):=by kernel_rfl
theorem ldJ (H:Heap) (r o:Nat):aLoad Try.prog H 83 (.pointer (some ⟨r,o,none⟩)) = (H.read r o 1).bind one1:=by kernel_rfl
theorem ixJ (r o n c:Nat) (k:IntKind) (i:Int):Zaaa Try.prog 83 (.slice (some ⟨r,o,none⟩) n c) (.int k i) = if 0 ≤ i ∧ i < (n:Int) then some (.pointer (some ⟨r,o + i.toNat * 1,none⟩)) else none:=by kernel_rfl
theorem ixJJ (r o n c:Nat) (k:IntKind) (i:Int):Zaaa Try.prog 56 (.slice (some ⟨r,o,none⟩) n c) (.int k i) = if 0 ≤ i ∧ i < (n:Int) then some (.pointer (some ⟨r,o + i.toNat * 1,none⟩)) else none:=by kernel_rfl
theorem ixJn {r n k:Nat} (h:k < n):Zaaa Try.prog 83 (.slice (some ⟨r,0,none⟩) n n) (.int .i64 (k:Int)) = some (.pointer (some ⟨r,k,none⟩)):=by
  rw [ixJ,if_pos ⟨by omega,by omega⟩,Int.toNat_natCast,Nat.mul_one,Nat.zero_add]
theorem row_at {X:Heap} {w:List (List Nat)} {r o:Nat} {a:Option Addr} {c:Nat} (h:SlE jE X (.slice a w.length c) w r o) {k:Nat} (hk:k < w.length) :
    Zaaa Try.prog 83 (.slice a w.length c) (.int .i64 (k:Int)) = some (.pointer (some ⟨r,o + k,none⟩)) ∧ ∃ v,X.read r (o + k) 1 = some [v] ∧ jE.At X (w.getD k []) [v]:=by
  obtain ⟨a',c',e,ha⟩:=h.isv;cases e;refine ⟨by rw [ha (by omega),ixJ,if_pos ⟨by omega,by omega⟩,Int.toNat_natCast,Nat.mul_one],?_⟩
  obtain ⟨es,h1,h2⟩:=h.rd k hk;have h1:X.read r (o + k * 1) 1 = some es:=h1;rw [Nat.mul_one] at h1;obtain ⟨v,r',o',rfl,_⟩:=h2.1;exact ⟨v,h1,h2⟩
theorem jE_cases {X:Heap} {x:List Nat} {v:Value} (h:jE.At X x [v]):(x = [] ∧ v = .slice none 0 0) ∨ (x ≠ [] ∧ ∃ a c r o,v = .slice (some a) x.length c ∧ SlI .i64 X v (castL x) r o):=by
  obtain ⟨⟨v',r,o,e,hs⟩,h2,h3⟩:=h;cases e
  by_cases hx:x = []
  · exact .inl ⟨hx,(List.cons.inj (h2 hx)).1⟩
  · obtain ⟨a,n,c,e⟩:=h3 hx;have e:=(List.cons.inj e).1;subst e;obtain ⟨a',c',e',_⟩:=hs.isv;rw [castL_len] at e';cases e';exact .inr ⟨hx,a,_,r,o,rfl,hs⟩
end Go.Proofs.Yteechkbnccpicaa
