/- The best of all journeys, by the reference. -/
import Derived.Test.YteechkbnccpicaaPI
set_option linter.unusedVariables false
set_option linter.unusedSimpArgs false
set_option linter.unusedSectionVars false

namespace Go.Proofs.Yteechkbnccpicaa
open Go Go.AM
set_option maxRecDepth 10000

def cell (all:List (List (List Nat))) (k i:Nat):List Nat:=(all.getD k []).getD i []
def Qual (ls:List Lg) (to by':Int) (i:Nat):Prop:=(ls.getD i default).t = to ∧ (ls.getD i default).a ≤ by'
def Seen (k i k' i':Nat):Prop:=k' < k ∨ (k' = k ∧ i' < i)
theorem Seen.succ {k i k' i':Nat} (h:Seen k (i + 1) k' i'):Seen k i k' i' ∨ (k' = k ∧ i' = i):=by unfold Seen at *; omega
theorem Seen.up {k i k' i':Nat} (h:Seen k i k' i'):Seen k (i + 1) k' i':=by unfold Seen at *; omega
def BestI (ls:List Lg) (to by':Int) (all:List (List (List Nat))) (k i:Nat) (x:List Nat) (arr:Int):Prop:=
  (x = [] ∧ ∀ k' i',i' < ls.length → Seen k i k' i' → cell all k' i' ≠ [] → ¬ Qual ls to by' i') ∨
  ∃ k0 i0,i0 < ls.length ∧ Seen k i k0 i0 ∧ x = cell all k0 i0 ∧ x ≠ [] ∧ Qual ls to by' i0 ∧ arr = (ls.getD i0 default).a ∧ ∀ k' i',i' < ls.length → Seen k i k' i' → cell all k' i' ≠ [] → Qual ls to by' i' → arr < (ls.getD i' default).a ∨ (arr = (ls.getD i' default).a ∧ Le x (cell all k' i'))
variable {ls:List Lg} {to by':Int} {all:List (List (List Nat))}
theorem BestI.zero {arr:Int}:BestI ls to by' all 0 0 [] arr:=.inl ⟨rfl,fun k' i' _ h => by unfold Seen at h; omega⟩
theorem BestI.skip {k i:Nat} {x:List Nat} {arr:Int} (h:BestI ls to by' all k i x arr) (hn:cell all k i ≠ [] → ¬ Qual ls to by' i):BestI ls to by' all k (i + 1) x arr:=by
  rcases h with ⟨h1,h2⟩ | ⟨k0,i0,h1,h2,h3,h4,h5,h6,h7⟩
  · refine .inl ⟨h1,fun k' i' g1 g2 g3 => ?_⟩
    rcases g2.succ with g | ⟨rfl,rfl⟩
    · exact h2 k' i' g1 g g3
    · exact hn g3
  · refine .inr ⟨k0,i0,h1,h2.up,h3,h4,h5,h6,fun k' i' g1 g2 g3 g4 => ?_⟩
    rcases g2.succ with g | ⟨rfl,rfl⟩
    · exact h7 k' i' g1 g g3 g4
    · exact absurd g4 (hn g3)
theorem BestI.take {k i:Nat} {x:List Nat} {arr:Int} (h:BestI ls to by' all k i x arr) (hi:i < ls.length) (hc:cell all k i ≠ []) (hq:Qual ls to by' i) (hb:x = [] ∨ (ls.getD i default).a < arr ∨ ((ls.getD i default).a = arr ∧ Le (cell all k i) x)):BestI ls to by' all k (i + 1) (cell all k i) (ls.getD i default).a:=by
  refine .inr ⟨k,i,hi,.inr ⟨rfl,Nat.lt_succ_self _⟩,rfl,hc,hq,rfl,fun k' i' g1 g2 g3 g4 => ?_⟩
  rcases g2.succ with g | ⟨rfl,rfl⟩
  · rcases h with ⟨h1,h2⟩ | ⟨k0,i0,h1,h2,h3,h4,h5,h6,h7⟩
    · exact absurd g4 (h2 k' i' g1 g g3)
    · rcases hb with hb | hb | ⟨hb,hle⟩
      · exact absurd hb h4
      · rcases h7 k' i' g1 g g3 g4 with e | ⟨e,_⟩ <;> exact .inl (by omega)
      · rcases h7 k' i' g1 g g3 g4 with e | ⟨e,e2⟩
        · exact .inl (by omega)
        · exact .inr ⟨by omega,hle.trans e2⟩
  · exact .inr ⟨rfl,Le.refl _⟩
theorem BestI.stay {k i:Nat} {x:List Nat} {arr:Int} (h:BestI ls to by' all k i x arr) (hx:x ≠ []) (hb:arr < (ls.getD i default).a ∨ (arr = (ls.getD i default).a ∧ Le x (cell all k i))):BestI ls to by' all k (i + 1) x arr:=by
  rcases h with ⟨h1,_⟩ | ⟨k0,i0,h1,h2,h3,h4,h5,h6,h7⟩
  · exact absurd h1 hx
  · refine .inr ⟨k0,i0,h1,h2.up,h3,h4,h5,h6,fun k' i' g1 g2 g3 g4 => ?_⟩
    rcases g2.succ with g | ⟨rfl,rfl⟩
    · exact h7 k' i' g1 g g3 g4
    · exact hb
theorem BestI.row {k:Nat} {x:List Nat} {arr:Int} (h:BestI ls to by' all k ls.length x arr):BestI ls to by' all (k + 1) 0 x arr:=by
  have hs:∀ k' i',i' < ls.length → Seen (k + 1) 0 k' i' → Seen k ls.length k' i':=fun k' i' h1 h2 => by unfold Seen at *; omega
  rcases h with ⟨h1,h2⟩ | ⟨k0,i0,h1,h2,h3,h4,h5,h6,h7⟩
  · exact .inl ⟨h1,fun k' i' g1 g2 g3 => h2 k' i' g1 (hs _ _ g1 g2) g3⟩
  · exact .inr ⟨k0,i0,h1,by unfold Seen at *; omega,h3,h4,h5,h6,fun k' i' g1 g2 g3 g4 => h7 k' i' g1 (hs _ _ g1 g2) g3 g4⟩
theorem BestI.len {k i:Nat} {x:List Nat} {arr:Int} (h:BestI ls to by' all k i x arr) (hc:∀ k' i',i' < ls.length → cell all k' i' ≠ [] → (cell all k' i').length = k' + 1) (hx:x ≠ []):x.length ≤ k + 1:=by
  rcases h with ⟨h1,_⟩ | ⟨k0,i0,h1,h2,h3,h4,_⟩
  · exact absurd h1 hx
  · rw [h3] at h4 ⊢;rw [hc k0 i0 h1 h4];unfold Seen at h2; omega
def FewI (ls:List Lg) (to by':Int) (all:List (List (List Nat))) (k i:Nat) (x:List Nat):Prop:=
  (x = [] ∧ ∀ i',i' < i → cell all k i' ≠ [] → ¬ Qual ls to by' i') ∨
  ∃ i0,i0 < i ∧ x = cell all k i0 ∧ x ≠ [] ∧ Qual ls to by' i0 ∧ ∀ i',i' < i → cell all k i' ≠ [] → Qual ls to by' i' → lexle x (cell all k i')
theorem FewI.zero {k:Nat}:FewI ls to by' all k 0 []:=.inl ⟨rfl,fun i' h => absurd h (Nat.not_lt_zero i')⟩
theorem FewI.skip {k i:Nat} {x:List Nat} (h:FewI ls to by' all k i x) (hn:cell all k i ≠ [] → ¬ Qual ls to by' i):FewI ls to by' all k (i + 1) x:=by
  rcases h with ⟨h1,h2⟩ | ⟨i0,h1,h3,h4,h5,h7⟩
  · refine .inl ⟨h1,fun i' g1 g3 => ?_⟩
    rcases Nat.lt_or_ge i' i with g | g
    · exact h2 i' g g3
    · have:i' = i:=by omega
      subst this; exact hn g3
  · refine .inr ⟨i0,by omega,h3,h4,h5,fun i' g1 g3 g4 => ?_⟩
    rcases Nat.lt_or_ge i' i with g | g
    · exact h7 i' g g3 g4
    · have:i' = i:=by omega
      subst this; exact absurd g4 (hn g3)
theorem FewI.take {k i:Nat} {x:List Nat} (h:FewI ls to by' all k i x) (hc:cell all k i ≠ []) (hq:Qual ls to by' i) (hb:x = [] ∨ lexle (cell all k i) x):FewI ls to by' all k (i + 1) (cell all k i):=by
  refine .inr ⟨i,Nat.lt_succ_self _,rfl,hc,hq,fun i' g1 g3 g4 => ?_⟩
  rcases Nat.lt_or_ge i' i with g | g
  · rcases h with ⟨h1,h2⟩ | ⟨i0,h1,h3,h4,h5,h7⟩
    · exact absurd g4 (h2 i' g g3)
    · rcases hb with hb | hb
      · exact absurd hb h4
      · exact hb.trans (h7 i' g g3 g4)
  · have:i' = i:=by omega
    subst this; exact lexle.refl _
theorem FewI.stay {k i:Nat} {x:List Nat} (h:FewI ls to by' all k i x) (hx:x ≠ []) (hb:lexle x (cell all k i)):FewI ls to by' all k (i + 1) x:=by
  rcases h with ⟨h1,_⟩ | ⟨i0,h1,h3,h4,h5,h7⟩
  · exact absurd h1 hx
  · refine .inr ⟨i0,by omega,h3,h4,h5,fun i' g1 g3 g4 => ?_⟩
    rcases Nat.lt_or_ge i' i with g | g
    · exact h7 i' g g3 g4
    · have:i' = i:=by omega
      subst this; exact hb
theorem FewI.len {k i:Nat} {x:List Nat} (h:FewI ls to by' all k i x) (hi:i ≤ ls.length) (hc:∀ k' i',i' < ls.length → cell all k' i' ≠ [] → (cell all k' i').length = k' + 1) (hx:x ≠ []):x.length = k + 1:=by
  rcases h with ⟨h1,_⟩ | ⟨i0,h1,h3,h4,_⟩
  · exact absurd h1 hx
  · rw [h3] at h4 ⊢;exact hc k i0 (by omega) h4
def FewR (ls:List Lg) (to by':Int) (all:List (List (List Nat))) (x:List Nat):Prop:=
  (x = [] ∧ ∀ k' i',k' < all.length → i' < ls.length → cell all k' i' ≠ [] → ¬ Qual ls to by' i') ∨
  ∃ k0 i0,k0 < all.length ∧ i0 < ls.length ∧ x = cell all k0 i0 ∧ x ≠ [] ∧ Qual ls to by' i0 ∧ ∀ k' i',k' < all.length → i' < ls.length → cell all k' i' ≠ [] → Qual ls to by' i' → Le x (cell all k' i')
theorem FewI.found {k:Nat} {x:List Nat} (h:FewI ls to by' all k ls.length x) (hk:k < all.length) (hx:x ≠ []) (hno:∀ k' i',k' < k → i' < ls.length → cell all k' i' ≠ [] → ¬ Qual ls to by' i') (hc:∀ k' i',i' < ls.length → cell all k' i' ≠ [] → (cell all k' i').length = k' + 1):FewR ls to by' all x:=by
  have hl:=h.len (Nat.le_refl _) hc hx;rcases h with ⟨h1,_⟩ | ⟨i0,h1,h3,h4,h5,h7⟩
  · exact absurd h1 hx
  · refine .inr ⟨k,i0,hk,h1,h3,h4,h5,fun k' i' g1 g2 g3 g4 => ?_⟩
    rcases Nat.lt_trichotomy k' k with g | g | g
    · exact absurd g4 (hno k' i' g g2 g3)
    · subst g; exact .inr ⟨by rw [hl,hc _ _ g2 g3],h7 i' g2 g3 g4⟩
    · exact .inl (by rw [hl,hc _ _ g2 g3]; omega)
theorem all_at {X:Heap} {all:List (List (List Nat))} {r o:Nat} {a:Option Addr} {c:Nat} (h:SlE (sliceE jE) X (.slice a all.length c) all r o) {k:Nat} (hk:k < all.length) :
    Zaaa Try.prog 56 (.slice a all.length c) (.int .i64 (k:Int)) = some (.pointer (some ⟨r,o + k,none⟩)) ∧ ∃ a2 c2 r2 o2,X.read r (o + k) 1 = some [.slice a2 (all.getD k []).length c2] ∧ SlE jE X (.slice a2 (all.getD k []).length c2) (all.getD k []) r2 o2:=by
  obtain ⟨a',c',e,ha⟩:=h.isv;cases e;refine ⟨by rw [ha (by omega),ixJJ,if_pos ⟨by omega,by omega⟩,Int.toNat_natCast,Nat.mul_one],?_⟩
  obtain ⟨es,h1,h2⟩:=h.rd k hk;have h1:X.read r (o + k * 1) 1 = some es:=h1;rw [Nat.mul_one] at h1;obtain ⟨v,r',o',rfl,h3⟩:=h2;obtain ⟨a2,c2,rfl⟩:=h3.v0;exact ⟨a2,c2,r',o',h1,h3⟩
theorem cell_at {X:Heap} {all:List (List (List Nat))} {r o:Nat} {a:Option Addr} {c:Nat} (h:SlE (sliceE jE) X (.slice a all.length c) all r o) {k i:Nat} (hk:k < all.length) (hi:i < (all.getD k []).length) :
    ∃ q a2 c2 r2 q2 v,Zaaa Try.prog 56 (.slice a all.length c) (.int .i64 (k:Int)) = some (.pointer (some ⟨r,q,none⟩)) ∧ X.read r q 1 = some [.slice a2 (all.getD k []).length c2] ∧
      Zaaa Try.prog 83 (.slice a2 (all.getD k []).length c2) (.int .i64 (i:Int)) = some (.pointer (some ⟨r2,q2,none⟩)) ∧ X.read r2 q2 1 = some [v] ∧ one1 [v] = some v ∧ jE.At X (cell all k i) [v]:=by
  obtain ⟨h1,a2,c2,r2,o2,h2,h3⟩:=all_at h hk;obtain ⟨h4,v,h5,h6⟩:=row_at h3 hi;exact ⟨_,a2,c2,r2,_,v,h1,h2,h4,h5,by rcases jE_cases h6 with ⟨_,rfl⟩ | ⟨_,_,_,_,_,rfl,_⟩ <;> rfl,h6⟩

variable {S:AM.Sys} (hS:Only S 11)
include hS

set_option maxHeartbeats 8000000 in
theorem rBest_runs (ls:List Lg) (a:Option Addr) (c r o:Nat) (all:List (List (List Nat))) (aa:Option Addr) (ac ar ao:Nat) (to by':Int) (H:Heap) (hL:H.low ≤ H.size) (hl:SlG H (.slice a ls.length c) ls r o) (h60:ls.length ≤ 60) (ha:SlE (sliceE jE) H (.slice aa all.length ac) all ar ao) (hal:all.length ≤ 10000)
    (hrow:∀ k,k < all.length → (all.getD k []).length = ls.length) (hc:∀ k' i',i' < ls.length → cell all k' i' ≠ [] → (cell all k' i').length = k' + 1) :
    ∃ v x arr,Runs Try.prog S (.fn 31) [.slice a ls.length c,.slice aa all.length ac,.int .i64 to,.int .i64 by'] H v H ∧ jE.At H x [v] ∧ BestI ls to by' all all.length 0 x arr:=by
  suffices h:WCall Try.prog S (.fn 31) [.slice a ls.length c,.slice aa all.length ac,.int .i64 to,.int .i64 by'] H (fun v H' => H' = H ∧ ∃ x arr,jE.At H x [v] ∧ BestI ls to by' all all.length 0 x arr) by
    obtain ⟨v,H',hr,rfl,x,arr,h1,h2⟩:=h; exact ⟨v,x,arr,hr,h1,h2⟩
  have hnil:jE.At H [] [.slice none 0 0]:=⟨⟨_,0,0,rfl,nilI H⟩,fun _ => rfl,fun h => absurd rfl h⟩
  refine Zaba Try.func31 rfl (Nat.le_of_ble_eq_true rfl) (hS.no rfl _ _) ?_
  rw [Try.ntmps31,Try.results31]
  repeat' simp only [↓Zabx,↓Zabz,↓Zaaj,↓Zabu,↓Zaby,↓Zacw,↓Zacv,↓Zadb,↓Zaau,↓Zaam,↓bxPut,↓Zabs,↓Zabq,↓Zacz,↓Zada,↓Zabg,↓Zabe,Zabm,Nat.reduceLT, *]
  refine sxL_of (fun m ρ X => ∃ (k:Nat) (x:List Nat) (arr:Int) (v:Value),m = all.length - k ∧ k ≤ all.length ∧ X = H ∧ jE.At H x [v] ∧ BestI ls to by' all k 0 x arr ∧ ρ 0 = .slice a ls.length c ∧ ρ 1 = .slice aa all.length ac ∧ ρ 2 = .int .i64 to ∧ ρ 3 = .int .i64 by' ∧ ρ 9 = v ∧ ρ 10 = .int .i64 arr ∧ ρ 11 = .int .i64 (k:Int))
    ⟨0,[],0,_,rfl,Nat.zero_le _,rfl,hnil,BestI.zero,rfl,rfl,rfl,rfl,rfl,rfl,rfl⟩ ?_
  clear hnil;rintro m ρ X ⟨k,x,arr,v,rfl,hk,rfl,hat,hbi,e0,e1,e2,e3,e9,e10,e11⟩
  by_cases hkl:k < all.length
  case neg =>
    have hkl':¬ (k:Int) < (all.length:Int):=by omega
    have hke:k = all.length:=Nat.le_antisymm hk (Nat.not_lt.1 hkl);rw [hke] at hbi;have hpost:∃ x arr,jE.At X x [v] ∧ BestI ls to by' all all.length 0 x arr:=⟨x,arr,hat,hbi⟩
    clear hke hkl hk hbi hat hl ha hrow hc
    repeat' simp only [↓Zaca,↓Zabx,↓Zabz,↓Zaai,↓Zaaj,↓Zabu,↓Zabw,↓Zacw,↓Zacv,↓Zadb,↓Zaau,↓Zaam,↓Zaan,↓Zaas,↓bxPut,↓Zabs,↓Zabr,↓Zaaf,↓Zabk,↓Zabj,↓Zadc,↓Zabg,↓Zabe,Zacx,Zaae,Zabi,Zact,↓reduceIte,Nat.reduceEqDiff,Nat.reduceLT,dec_F,and_self, *,lenJJ]
  have hkl':(k:Int) < (all.length:Int):=by omega
  have hwk:IntKind.i64.wrap ((k:Int) + 1) = ((k + 1:Nat):Int):=IntWalk.i64_in _ (by omega)
  have hrk:=hrow k hkl
  repeat' simp only [↓Zaca,↓Zabx,↓Zabz,↓Zaai,↓Zaaj,↓Zabu,↓Zabw,↓Zacw,↓Zacv,↓Zadb,↓Zaau,↓Zaam,↓Zaan,↓Zaas,↓bxPut,↓Zabs,↓Zabr,↓Zaaf,↓Zabk,↓Zabj,↓Zadc,↓Zabg,↓Zabe,Zacx,Zaae,Zabi,Zacu,↓reduceIte,Nat.reduceEqDiff,Nat.reduceLT,dec_T, *,lenJJ]
  refine sxL_of (fun m ρ Y => ∃ (i:Nat) (x:List Nat) (arr:Int) (v:Value),m = ls.length - i ∧ i ≤ ls.length ∧ Y = X ∧ jE.At X x [v] ∧ BestI ls to by' all k i x arr ∧ ρ 0 = .slice a ls.length c ∧ ρ 1 = .slice aa all.length ac ∧ ρ 2 = .int .i64 to ∧ ρ 3 = .int .i64 by' ∧ ρ 9 = v ∧ ρ 10 = .int .i64 arr ∧ ρ 11 = .int .i64 (k:Int) ∧ ρ 12 = .int .i64 (i:Int))
    ⟨0,x,arr,v,rfl,Nat.zero_le _,rfl,hat,hbi,e0,e1,e2,e3,e9,e10,e11,rfl⟩ ?_
  clear hat hbi e0 e1 e2 e3 e9 e10 e11 ρ x arr v;rintro m ρ Y ⟨i,x,arr,v,rfl,hi,rfl,hat,hbi,e0,e1,e2,e3,e9,e10,e11,e12⟩
  by_cases hil:i < ls.length
  case neg =>
    have hil':¬ (i:Int) < (ls.length:Int):=by omega
    have hie:i = ls.length:=Nat.le_antisymm hi (Nat.not_lt.1 hil);rw [hie] at hbi;have hbi2:=hbi.row;clear hie hil hi hbi hl ha hrow hc hrk
    repeat' simp only [↓Zaca,↓Zabx,↓Zabz,↓Zaai,↓Zabu,↓Zabw,↓Zacw,↓Zacv,↓Zadb,↓Zaaz,↓Zaau,↓Zaam,↓Zaav,↓Zaat,↓Zaan,↓Zaaq,↓Zaar,↓Zaay,↓Zaas,↓bxPut,↓Zabs,↓Zabr,↓Zaag,↓Zaaf,↓Zabk,↓Zabj,↓Zadc,↓Zabg,↓Zabe,↓Zabf,↓dstAt,↓Zabh,Zacx,Zaae,Zabi,Zacb,Zact,List.nil_append,↓reduceIte,Nat.reduceEqDiff,Nat.reduceLT,dec_F,true_and, *,lenG]
    exact ⟨all.length - (k + 1),by omega,k + 1,x,arr,v,rfl,by omega,hat,hbi2,rfl,rfl,rfl⟩
  have hil':(i:Int) < (ls.length:Int):=by omega
  have hwi:IntKind.i64.wrap ((i:Int) + 1) = ((i + 1:Nat):Int):=IntWalk.i64_in _ (by omega)
  have hob:=cell_at ha hkl (i:=i) (by rw [hrk]; exact hil)
  obtain ⟨qa,a2,c2,r2,q2,vc,ix1,rd1,ix2,rd2,on2,atc⟩:=hob;have hob:=jE_nil atc;obtain ⟨eqc,_⟩:=hob;have hob:=SlG_at hl hil;obtain ⟨qg,ixg,_,_,rt,_,ra,_⟩:=hob;clear hrk
  by_cases hcn:cell all k i = []
  · have hbi2:=hbi.skip (fun h => absurd hcn h)
    rw [hcn] at eqc;replace eqc:binP Try.prog .eql 25 vc (.slice none 0 0) = some (.bool true):=eqc;clear hbi hl ha hrow hc atc hcn
    repeat' simp only [↓Zaca,↓Zabx,↓Zabz,↓Zaai,↓Zabu,↓Zabw,↓Zacw,↓Zacv,↓Zadb,↓Zaaz,↓Zaau,↓Zaam,↓Zaav,↓Zaat,↓Zaan,↓Zaaq,↓Zaar,↓Zaay,↓Zaas,↓bxPut,↓Zabs,↓Zabr,↓Zaag,↓Zaaf,↓Zabk,↓Zabj,↓Zadc,↓Zabg,↓Zabe,↓Zabf,↓dstAt,↓Zabh,Zacx,Zaae,Zabi,Zaad,Zacb,Zacq,Zacu,List.nil_append,↓reduceIte,Nat.reduceEqDiff,Nat.reduceLT,dec_T,true_and,one1,Option.bind_some, *,lenG,ldJ,ldIs]
    exact ⟨ls.length - (i + 1),by omega,i + 1,x,arr,v,rfl,by omega,hat,hbi2,rfl,rfl,rfl⟩
  have hem:(cell all k i).isEmpty = false:=by cases h:cell all k i with | nil => exact absurd h hcn | cons _ _ => rfl
  rw [hem] at eqc
  by_cases ht:(ls.getD i default).t = to
  case neg =>
    have dt:decide (¬ (ls.getD i default).t = to) = true:=decide_eq_true ht;have hbi2:=hbi.skip (fun _ h => ht h.1)
    clear hbi hl ha hrow hc atc hcn ht hem
    repeat' simp only [↓Zaca,↓Zabx,↓Zabz,↓Zaai,↓Zabu,↓Zabw,↓Zacw,↓Zacv,↓Zadb,↓Zaaz,↓Zaau,↓Zaam,↓Zaav,↓Zaat,↓Zaan,↓Zaaq,↓Zaar,↓Zaay,↓Zaas,↓bxPut,↓Zabs,↓Zabr,↓Zaag,↓Zaaf,↓Zabk,↓Zabj,↓Zadc,↓Zabg,↓Zabe,↓Zabf,↓dstAt,↓Zabh,Zacx,Zaae,Zabi,Zaad,Zaac,Zacb,Zacq,Zacp,Zacu,List.nil_append,↓reduceIte,Nat.reduceEqDiff,Nat.reduceLT,dec_T,true_and,one1,Option.bind_some, *,lenG,ldJ,ldIs,ldC,faG1,one1]
    exact ⟨ls.length - (i + 1),by omega,i + 1,x,arr,v,rfl,by omega,hat,hbi2,rfl,rfl,rfl⟩
  have dt:decide (¬ (ls.getD i default).t = to) = false:=decide_eq_false (fun h => h ht)
  by_cases hb:(ls.getD i default).a ≤ by'
  case neg =>
    have db:decide (by' < (ls.getD i default).a) = true:=decide_eq_true (by omega)
    have hbi2:=hbi.skip (fun _ h => hb h.2)
    clear hbi hl ha hrow hc atc hcn ht hb hem
    repeat' simp only [↓Zaca,↓Zabx,↓Zabz,↓Zaai,↓Zabu,↓Zabw,↓Zacw,↓Zacv,↓Zadb,↓Zaaz,↓Zaau,↓Zaam,↓Zaav,↓Zaat,↓Zaan,↓Zaaq,↓Zaar,↓Zaay,↓Zaas,↓bxPut,↓Zabs,↓Zabr,↓Zaag,↓Zaaf,↓Zabk,↓Zabj,↓Zadc,↓Zabg,↓Zabe,↓Zabf,↓dstAt,↓Zabh,Zacx,Zaae,Zabi,Zaac,Zacb,Zacp,Zacu,List.nil_append,↓reduceIte,Nat.reduceEqDiff,Nat.reduceLT,dec_T,true_and,one1,Option.bind_some, *,lenG,ldJ,ldIs,ldC,faG1,faG3,one1]
    exact ⟨ls.length - (i + 1),by omega,i + 1,x,arr,v,rfl,by omega,hat,hbi2,rfl,rfl,rfl⟩
  have db:decide (by' < (ls.getD i default).a) = false:=decide_eq_false (by omega)
  have hq:Qual ls to by' i:=⟨ht,hb⟩
  have hob:=jE_nil hat;obtain ⟨eqx,_⟩:=hob
  by_cases hx:x = []
  · have hbi2:=hbi.take hil hcn hq (.inl hx);rw [hx] at eqx;replace eqx:binP Try.prog .eql 25 v (.slice none 0 0) = some (.bool true):=eqx;clear hbi hl ha hrow hc hcn ht hb hq hx hem hat
    repeat' simp only [↓Zaca,↓Zabx,↓Zabz,↓Zaai,↓Zabu,↓Zabw,↓Zacw,↓Zacv,↓Zadb,↓Zaaz,↓Zaau,↓Zaam,↓Zaav,↓Zaat,↓Zaan,↓Zaaq,↓Zaar,↓Zaay,↓Zaas,↓bxPut,↓Zabs,↓Zabr,↓Zaag,↓Zaaf,↓Zabk,↓Zabj,↓Zadc,↓Zabg,↓Zabe,↓Zabf,↓dstAt,↓Zabh,Zacx,Zaae,Zabi,Zaad,Zaac,Zacb,sxGuardB_u,Zacq,Zacp,Zacu,Zact,List.nil_append,↓reduceIte,Nat.reduceEqDiff,Nat.reduceLT,dec_T,true_and,one1,Option.bind_some, *,lenG,ldJ,ldIs,ldC,faG1,faG3,one1]
    exact ⟨ls.length - (i + 1),by omega,i + 1,_,_,vc,rfl,by omega,atc,hbi2,rfl,rfl,rfl⟩
  have hex:x.isEmpty = false:=by cases h:x with | nil => exact absurd h hx | cons _ _ => rfl
  rw [hex] at eqx
  by_cases hlt:(ls.getD i default).a < arr
  · have d3:decide ((ls.getD i default).a < arr) = true:=decide_eq_true hlt;have hbi2:=hbi.take hil hcn hq (.inr (.inl hlt));clear hbi hl ha hrow hc hcn ht hb hq hx hem hex hat hlt
    repeat' simp only [↓Zaca,↓Zabx,↓Zabz,↓Zaai,↓Zabu,↓Zabw,↓Zacw,↓Zacv,↓Zadb,↓Zaaz,↓Zaau,↓Zaam,↓Zaav,↓Zaat,↓Zaan,↓Zaaq,↓Zaar,↓Zaay,↓Zaas,↓bxPut,↓Zabs,↓Zabr,↓Zaag,↓Zaaf,↓Zabk,↓Zabj,↓Zadc,↓Zabg,↓Zabe,↓Zabf,↓dstAt,↓Zabh,Zacx,Zaae,Zabi,Zaad,Zaac,Zacb,sxGuardB_u,Zacq,Zacp,Zacu,Zact,List.nil_append,↓reduceIte,Nat.reduceEqDiff,Nat.reduceLT,dec_T,true_and,one1,Option.bind_some, *,lenG,ldJ,ldIs,ldC,faG1,faG3,one1]
    exact ⟨ls.length - (i + 1),by omega,i + 1,_,_,vc,rfl,by omega,atc,hbi2,rfl,rfl,rfl⟩
  have d3:decide ((ls.getD i default).a < arr) = false:=decide_eq_false hlt
  by_cases heq:(ls.getD i default).a = arr
  case neg =>
    have d4:decide ((ls.getD i default).a = arr) = false:=decide_eq_false heq;have hbi2:=hbi.stay hx (.inl (by omega))
    clear hbi hl ha hrow hc hcn ht hb hq hx hem hex hlt heq atc
    repeat' simp only [↓Zaca,↓Zabx,↓Zabz,↓Zaai,↓Zabu,↓Zabw,↓Zacw,↓Zacv,↓Zadb,↓Zaaz,↓Zaau,↓Zaam,↓Zaav,↓Zaat,↓Zaan,↓Zaaq,↓Zaar,↓Zaay,↓Zaas,↓bxPut,↓Zabs,↓Zabr,↓Zaag,↓Zaaf,↓Zabk,↓Zabj,↓Zadc,↓Zabg,↓Zabe,↓Zabf,↓dstAt,↓Zabh,Zacx,Zaae,Zabi,Zaac,Zacb,Zacr,Zacp,Zacu,Zact,List.nil_append,↓reduceIte,Nat.reduceEqDiff,Nat.reduceLT,dec_T,true_and,one1,Option.bind_some, *,lenG,ldJ,ldIs,ldC,faG1,faG3,one1]
    exact ⟨ls.length - (i + 1),by omega,i + 1,x,arr,v,rfl,by omega,hat,hbi2,rfl,rfl,rfl⟩
  have d4:decide ((ls.getD i default).a = arr) = true:=decide_eq_true heq;have hlc:=hc k i hil hcn;have hlx:=hbi.len hc hx;rcases jE_cases atc with ⟨h,_⟩ | ⟨_,a5,c5,r5,o5,e5,s5⟩
  · exact absurd h hcn
  rcases jE_cases hat with ⟨h,_⟩ | ⟨_,a6,c6,r6,o6,e6,s6⟩
  · exact absurd h hx
  have ln5:aLen Try.prog #[25] vc = some (.int .i64 ((cell all k i).length:Int)):=by rw [e5,lenIs]
  have ln6:aLen Try.prog #[25] v = some (.int .i64 (x.length:Int)):=by rw [e6,lenIs]
  by_cases hll:(cell all k i).length = x.length
  case neg =>
    have d5:decide (((cell all k i).length:Int) = (x.length:Int)) = false:=decide_eq_false (by omega)
    have hbi2:=hbi.stay hx (.inr ⟨heq.symm,.inl (by omega)⟩)
    clear hbi hl ha hrow hc hcn ht hb hq hx hem hex hlt heq atc e5 e6 s5 s6 hlc hlx hll
    repeat' simp only [↓Zaca,↓Zabx,↓Zabz,↓Zaai,↓Zabu,↓Zabw,↓Zacw,↓Zacv,↓Zadb,↓Zaaz,↓Zaau,↓Zaam,↓Zaav,↓Zaat,↓Zaan,↓Zaaq,↓Zaar,↓Zaay,↓Zaas,↓bxPut,↓Zabs,↓Zabr,↓Zaag,↓Zaaf,↓Zabk,↓Zabj,↓Zadc,↓Zabg,↓Zabe,↓Zabf,↓dstAt,↓Zabh,Zacx,Zaae,Zabi,Zaad,Zaac,Zacb,Zacs,Zacr,Zacp,Zacu,Zact,List.nil_append,↓reduceIte,Nat.reduceEqDiff,Nat.reduceLT,dec_T,true_and,one1,Option.bind_some, *,lenG,ldJ,ldIs,ldC,faG1,faG3,one1]
    exact ⟨ls.length - (i + 1),by omega,i + 1,x,arr,v,rfl,by omega,hat,hbi2,rfl,rfl,rfl⟩
  have d5:decide (((cell all k i).length:Int) = (x.length:Int)) = true:=decide_eq_true (by omega)
  have f9:=(rLess_runs hS _ _ hll vc v _ _ _ _ Y hL s5 s6).bx;have hlx:=lexB_iff hll
  by_cases hle:lexle x (cell all k i)
  · have hb9:lexB (cell all k i) x = false:=Bool.eq_false_iff.2 (fun h => hlx.1 h hle)
    rw [hb9] at f9;have hbi2:=hbi.stay hx (.inr ⟨heq.symm,.inr ⟨hll.symm,hle⟩⟩);clear hbi hl ha hrow hc hcn ht hb hq hx hem hex hlt heq atc e5 e6 s5 s6 hlc hlx hll hle hb9
    repeat' simp only [↓Zaca,↓Zabx,↓Zabz,↓Zaai,↓Zabu,↓Zabw,↓Zacw,↓Zacv,↓Zadb,↓Zaaz,↓Zaau,↓Zaam,↓Zaav,↓Zaat,↓Zaan,↓Zaaq,↓Zaar,↓Zaay,↓Zaas,↓bxPut,↓Zabs,↓Zabr,↓Zaag,↓Zaaf,↓Zabk,↓Zabj,↓Zadc,↓Zabg,↓Zabe,↓Zabf,↓dstAt,↓Zabh,Zacx,Zaae,Zabi,Zaad,Zaac,Zacb,Zacs,Zacp,Zacu,Zact,List.map,List.nil_append,List.append_nil,↓reduceIte,Nat.reduceEqDiff,Nat.reduceLT,dec_T,true_and,one1,Option.bind_some, *,lenG,ldJ,ldIs,ldC,faG1,faG3,one1]
    exact ⟨ls.length - (i + 1),by omega,i + 1,x,arr,v,rfl,by omega,hat,hbi2,rfl,rfl,rfl⟩
  · have hb9:lexB (cell all k i) x = true:=hlx.2 hle;rw [hb9] at f9;have hbi2:=hbi.take hil hcn hq (.inr (.inr ⟨heq,.inr ⟨hll,(lexle.total _ _).resolve_right hle⟩⟩));clear hbi hl ha hrow hc hcn ht hb hq hx hem hex hlt heq hat e5 e6 s5 s6 hlc hlx hll hle hb9
    repeat' simp only [↓Zaca,↓Zabx,↓Zabz,↓Zaai,↓Zabu,↓Zabw,↓Zacw,↓Zacv,↓Zadb,↓Zaaz,↓Zaau,↓Zaam,↓Zaav,↓Zaat,↓Zaan,↓Zaaq,↓Zaar,↓Zaay,↓Zaas,↓bxPut,↓Zabs,↓Zabr,↓Zaag,↓Zaaf,↓Zabk,↓Zabj,↓Zadc,↓Zabg,↓Zabe,↓Zabf,↓dstAt,↓Zabh,Zacx,Zaae,Zabi,Zaad,Zaac,Zacb,Zacs,Zacp,Zacu,Zact,List.map,List.nil_append,List.append_nil,↓reduceIte,Nat.reduceEqDiff,Nat.reduceLT,dec_T,true_and,one1,Option.bind_some, *,lenG,ldJ,ldIs,ldC,faG1,faG3,one1]
    exact ⟨ls.length - (i + 1),by omega,i + 1,_,_,vc,rfl,by omega,atc,hbi2,rfl,rfl,rfl⟩
end Go.Proofs.Yteechkbnccpicaa
