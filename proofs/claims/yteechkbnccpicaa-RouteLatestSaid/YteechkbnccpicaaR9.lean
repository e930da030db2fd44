/- The reference's Joins and Is. -/
import Derived.Test.YteechkbnccpicaaR3
import Derived.Test.YteechkbnccpicaaR7
set_option linter.unusedVariables false
set_option linter.unusedSimpArgs false
set_option linter.unusedSectionVars false

namespace Go.Proofs.Yteechkbnccpicaa
open Go Go.AM
set_option maxRecDepth 10000

def RsJ (ls:List Lg) (ch fr to at':Int) (js:List Int) (b:Bool):Prop:=
  (js.length = 0 → b = decide (fr = to)) ∧
  (js.length ≠ 0 → (b = true ↔ AllOk ls ch js js.length ∧ ((ls.getD (js.getD 0 0).toNat default).f = fr ∧ at' ≤ (ls.getD (js.getD 0 0).toNat default).d) ∧
    (ls.getD (js.getD (js.length - 1) 0).toNat default).t = to))
def PostR (H:Heap) (J:Bool → Prop) (u:Value) (H':Heap):Prop:=∃ b,u = .tuple ⟨[.bool b,.int .i64 0]⟩ ∧ Keep H H' ∧ J b
theorem PostR.no {H H':Heap} {ls:List Lg} {ch fr to at':Int} {js:List Int} {k:Nat} (hk:k < js.length) (h:¬ OkAt ls ch js k) (hK:Keep H H'):PostR H (RsJ ls ch fr to at' js) (.tuple ⟨[.bool false,.int .i64 0]⟩) H':=
  ⟨false,rfl,hK,fun h0 => absurd h0 (by omega),fun _ => ⟨fun hh => (by cases hh),fun hh => absurd (hh.1 k hk) h⟩⟩

variable {S:AM.Sys} (hS:Only S 11)
include hS

theorem joins_runs (x y:Lg) (ch:Int) (hf:Fit ch x) (H:Heap):∃ H',Keep H H' ∧ Runs Try.prog S (.fn 42) [.agg ⟨lc x⟩,.agg ⟨lc y⟩,.int .i64 ch] H (.bool (joinB ch x y)) H':=by
  suffices h:WCall Try.prog S (.fn 42) [.agg ⟨lc x⟩,.agg ⟨lc y⟩,.int .i64 ch] H (fun u H' => u = .bool (joinB ch x y) ∧ Keep H H') by
    obtain ⟨_,H',hr,rfl,hk⟩:=h; exact ⟨H',hk,hr⟩
  obtain ⟨H1,e1,hK1,g5,g0,g1,g2,g3,g4⟩:=boxG H x;obtain ⟨H2,e2,hK2,p5,p0,p1,p2,p3,p4⟩:=boxG H1 y;have hK:=hK1.trans hK2;have hz:H.size < H1.size:=by rw [← e1,size_new]; omega
  have q1:=hK2.read hz g1;have q3:=hK2.read hz g3;have q4:=hK2.read hz g4;have hw:IntKind.i64.wrap (x.a + ch) = x.a + ch:=IntWalk.i64_in _ (by have:=hf.1; have:=hf.2; omega)
  clear g0 g1 g2 g3 g4 g5 p5 hz hK1 hK2 hf;have hgo:∃ b,b = joinB ch x y:=⟨_,rfl⟩;obtain ⟨b,hb⟩:=hgo;rw [← hb];unfold joinB at hb;refine Zabc Try.func42 rfl (Nat.le_of_ble_eq_true rfl) (hS.no rfl _ _) ?_
  rw [Try.ntmps42,Try.results42]
  by_cases c2:x.t = y.f
  · by_cases c1:x.l = y.l
    · rw [if_pos c1] at hb
      by_cases c3:x.a ≤ y.d
      · replace hb:b = true:=by rw [hb]; exact decide_eq_true ⟨c2.symm,c3⟩
        repeat' simp only [↓Zacc,↓Zabz,↓Zacb,↓Zaai,↓Zaca,↓Zacy,↓Zacx,↓Zadd,↓Zaaw,↓Zaan,↓bxOp_box,↓Zaav,↓Zaao,↓Zaas,↓bxPut,↓Zabu,↓Zabv,↓Zabs,↓Zadb,↓Zadc,↓Zade,↓Zabi,↓Zabg,Zacz,Zaae,Zabk,Zacw,Zacv,Zabo,↓reduceIte,Nat.reduceEqDiff,Nat.reduceLT,dec_T,dec_F,and_self,Nat.add_zero,one1,Option.bind_some,not_true_eq_false, *,argF,List.getD_cons_zero,List.getD_cons_succ,Zabd,faG0,faG1,faG2,faG3,faG4,ldC,one1]
      · replace hb:b = false:=by rw [hb]; exact decide_eq_false fun h => c3 h.2
        repeat' simp only [↓Zacc,↓Zabz,↓Zacb,↓Zaai,↓Zaca,↓Zacy,↓Zacx,↓Zadd,↓Zaaw,↓Zaan,↓bxOp_box,↓Zaav,↓Zaao,↓Zaas,↓bxPut,↓Zabu,↓Zabv,↓Zabs,↓Zadb,↓Zadc,↓Zade,↓Zabi,↓Zabg,Zacz,Zaae,Zabk,Zacw,Zacv,Zabo,↓reduceIte,Nat.reduceEqDiff,Nat.reduceLT,dec_T,dec_F,and_self,Nat.add_zero,one1,Option.bind_some,not_true_eq_false, *,argF,List.getD_cons_zero,List.getD_cons_succ,Zabd,faG0,faG1,faG2,faG3,faG4,ldC,one1]
    · rw [if_neg c1] at hb
      by_cases c3:x.a + ch ≤ y.d
      · replace hb:b = true:=by rw [hb]; exact decide_eq_true ⟨c2.symm,c3⟩
        repeat' simp only [↓Zacc,↓Zabz,↓Zacb,↓Zaai,↓Zaca,↓Zacy,↓Zacx,↓Zadd,↓Zaaw,↓Zaan,↓bxOp_box,↓Zaav,↓Zaao,↓Zaas,↓bxPut,↓Zabu,↓Zabv,↓Zabs,↓Zadb,↓Zadc,↓Zade,↓Zabi,↓Zabg,Zacz,Zaae,Zabk,Zacv,Zabo,↓reduceIte,Nat.reduceEqDiff,Nat.reduceLT,dec_T,dec_F,and_self,Nat.add_zero,one1,Option.bind_some,not_true_eq_false, *,argF,List.getD_cons_zero,List.getD_cons_succ,Zabd,faG0,faG1,faG2,faG3,faG4,ldC,one1]
      · replace hb:b = false:=by rw [hb]; exact decide_eq_false fun h => c3 h.2
        repeat' simp only [↓Zacc,↓Zabz,↓Zacb,↓Zaai,↓Zaca,↓Zacy,↓Zacx,↓Zadd,↓Zaaw,↓Zaan,↓bxOp_box,↓Zaav,↓Zaao,↓Zaas,↓bxPut,↓Zabu,↓Zabv,↓Zabs,↓Zadb,↓Zadc,↓Zade,↓Zabi,↓Zabg,Zacz,Zaae,Zabk,Zacv,Zabo,↓reduceIte,Nat.reduceEqDiff,Nat.reduceLT,dec_F,and_self,Nat.add_zero,one1,Option.bind_some,not_true_eq_false, *,argF,List.getD_cons_zero,List.getD_cons_succ,Zabd,faG0,faG1,faG2,faG3,faG4,ldC,one1]
  · replace hb:b = false:=by rw [hb]; exact decide_eq_false fun h => c2 h.1.symm
    repeat' simp only [↓Zacc,↓Zabz,↓Zacb,↓Zaai,↓Zaca,↓Zacy,↓Zacx,↓Zadd,↓Zaaw,↓Zaan,↓bxOp_box,↓Zaav,↓Zaao,↓Zaas,↓bxPut,↓Zabu,↓Zabv,↓Zabs,↓Zadb,↓Zadc,↓Zade,↓Zabi,↓Zabg,Zacz,Zaae,Zabk,Zacw,Zabo,↓reduceIte,Nat.reduceEqDiff,Nat.reduceLT,dec_T,and_self,Nat.add_zero,one1,Option.bind_some,not_false_eq_true, *,argF,List.getD_cons_zero,List.getD_cons_succ,Zabd,faG0,faG1,ldC,one1]
end Go.Proofs.Yteechkbnccpicaa

namespace Go.Proofs.Yteechkbnccpicaa
open Go Go.AM
set_option maxRecDepth 10000

theorem ldBo (H:Heap) (r o:Nat):aLoad Try.prog H 4 (.pointer (some ⟨r,o,none⟩)) = (H.read r o 1).bind one1:=by kernel_rfl
theorem ixB (r o n c:Nat) (k:IntKind) (i:Int):Zaaa Try.prog 58 (.slice (some ⟨r,o,none⟩) n c) (.int k i) = if 0 ≤ i ∧ i < (n:Int) then some (.pointer (some ⟨r,o + i.toNat * 1,none⟩)) else none:=by kernel_rfl
theorem ixBn {r n k:Nat} (h:k < n):Zaaa Try.prog 58 (.slice (some ⟨r,0,none⟩) n n) (.int .i64 (k:Int)) = some (.pointer (some ⟨r,k,none⟩)):=by
  rw [ixB,if_pos ⟨by omega,by omega⟩,Int.toNat_natCast,Nat.mul_one,Nat.zero_add]
def bvs (w:List Bool):List Value:=w.map fun z => .bool z
theorem bvs_len (w:List Bool):(bvs w).length = w.length:=by simp [bvs]
theorem splice_mapB {w:List Bool} {o:Nat} (ho:o < w.length) {z:Bool}:splice (bvs w) o [.bool z] = bvs (w.set o z):=by
  unfold splice bvs;rw [List.map_set];apply List.ext_getElem?;intro i;simp only [List.length_cons,List.length_nil];rw [List.getElem?_set];rcases Nat.lt_trichotomy i o with h | h | h
  · rw [List.getElem?_append_left (by simp; omega),List.getElem?_take,if_pos h,if_neg (by omega)]
  · subst h;rw [List.getElem?_append_right (by simp; omega),if_pos rfl,if_pos (by simpa using ho)]
    rw [List.length_take,List.length_map,Nat.min_eq_left (Nat.le_of_lt ho),Nat.sub_self]; rfl
  · rw [List.getElem?_append_right (by simp; omega),if_neg (by omega),List.getElem?_append_right (by simp; omega),List.getElem?_drop]
    congr 1;simp; omega
theorem storeB {H:Heap} {r:Nat} {w:List Bool} (ow:Own H r 4 (bvs w)) (z:Bool) {o:Nat} (ho:o < w.length) :
    ∃ H2,aStore Try.prog H 4 (.pointer (some ⟨r,o,none⟩)) (.bool z) = some H2 ∧ Own H2 r 4 (bvs (w.set o z)) ∧ (∀ r' e' c',r' ≠ r → Own H r' e' c' → Own H2 r' e' c') ∧ (∀ H0,Keep H0 H → H0.size ≤ r → Keep H0 H2):=by
  obtain ⟨H2,h1,h2,h3,h4,h5⟩:=ow.store (P:=Try.prog) (t:=4) (i:=Try.t4) (by kernel_rfl) (v:=.bool z) (new:=[.bool z]) rfl (by kernel_rfl) rfl (o:=o) (by rw [bvs_len]; show o + 1 ≤ w.length; omega)
  rw [splice_mapB ho] at h2;exact ⟨H2,h1,h2,h4,h5⟩
theorem readB {H:Heap} {r:Nat} {w:List Bool} (ow:Own H r 4 (bvs w)) {k:Nat} (hk:k < w.length):H.read r k 1 = some [.bool (w.getD k false)]:=by
  rw [ow.read (o:=k) (n:=1) (by rw [bvs_len]; omega)]
  unfold bvs;rw [← List.map_drop,← List.map_take,List.drop_eq_getElem_cons hk,List.getD_eq_getElem?_getD,List.getElem?_eq_getElem hk];rfl
theorem mkB (H:Heap) {l:Int} (h0:0 ≤ l) (h1:l ≤ 268435456):aMakeSlice Try.prog H 58 (.int .i64 l) (.int .i64 l) = some (.slice (some ⟨H.size,0,none⟩) l.toNat l.toNat,H.newExact (bvs (List.replicate l.toNat false)) 4):=by
  have h2:=makeSlice_eq (P:=Try.prog) (t:=58) (e:=4) (inf:=Try.t4) (z:=.bool false) Try.underlying58 (by kernel_rfl) (by kernel_rfl) rfl (by kernel_rfl) (of_decide_eq_true (by kernel_rfl)) H .i64 .i64 h0 h1
  rw [h2];have h3:Try.t4.size = 1:=by kernel_rfl
  rw [h3,Nat.mul_one];unfold bvs;rw [List.map_replicate];rfl
theorem mkBn (H:Heap) {n:Nat} (h:n ≤ 60):∃ H2,aMakeSlice Try.prog H 58 (.int .i64 (n:Int)) (.int .i64 (n:Int)) = some (.slice (some ⟨H.size,0,none⟩) n n,H2) ∧ Keep H H2 ∧ Own H2 H.size 4 (bvs (List.replicate n false)):=by
  have h1:=mkB H (l:=(n:Int)) (by omega) (by omega)
  rw [Int.toNat_natCast] at h1;exact ⟨_,h1,Keep.newExact _ _ _,Own.new _ _ _⟩
variable {S:AM.Sys} (hS:Only S 11)
include hS

end Go.Proofs.Yteechkbnccpicaa
