/- Earliest, by the reference. -/
import Derived.Test.YteechkbnccpicaaPJ
set_option linter.unusedVariables false
set_option linter.unusedSimpArgs false
set_option linter.unusedSectionVars false

namespace Go.Proofs.Yteechkbnccpicaa
open Go Go.AM
set_option maxRecDepth 10000

variable {ls:List Lg} {ch fr to at':Int} {B:Lg → Prop} {all:List (List (List Nat))}
theorem AllLev.cov (hA:AllLev ls ch B all) {j:Nat} {s:List Nat} (hc:Ch ls ch j s) (hB:B (ls.getD j default)):s.length < all.length ∧ lastN j s < ls.length ∧ cell all s.length (lastN j s) ≠ [] ∧ Le (cell all s.length (lastN j s)) (j :: s):=by
  have h1:=hA.2 j s hc hB;have h2:=hc.last_lt;refine ⟨h1,h2,?_⟩;rcases (hA.1 _ h1).2 _ h2 with ⟨_,g⟩ | ⟨j2,s2,g,g2,g3,g4,g5,g6⟩
  · exact absurd rfl (g j s hc hB rfl)
  · unfold cell;rw [g];exact ⟨by simp,.inr ⟨by simp [g5],g6 j s hc hB rfl rfl⟩⟩
theorem AllLev.src (hA:AllLev ls ch B all) {k i:Nat} (hk:k < all.length) (hi:i < ls.length) (hn:cell all k i ≠ []):∃ j s,cell all k i = j :: s ∧ Ch ls ch j s ∧ B (ls.getD j default) ∧ lastN j s = i:=by
  rcases (hA.1 k hk).2 i hi with ⟨g,_⟩ | ⟨j2,s2,g,g2,g3,g4,_⟩
  · exact absurd g hn
  · exact ⟨j2,s2,g,g2,g3,g4⟩
theorem AllLev.rows (hA:AllLev ls ch B all):∀ k,k < all.length → (all.getD k []).length = ls.length:=fun k hk => (hA.1 k hk).1
theorem AllLev.lens (hA:AllLev ls ch B all):∀ k' i',i' < ls.length → cell all k' i' ≠ [] → (cell all k' i').length = k' + 1:=fun k i hi hn => by
  rcases Nat.lt_or_ge k all.length with h | h
  · exact ((hA.1 k h).2 i hi).len hn
  · unfold cell at hn;have e:all.getD k [] = []:=by rw [List.getD_eq_getElem?_getD,List.getElem?_eq_none h]; rfl
    rw [e] at hn;exact absurd rfl hn
theorem EarlJ.eq {x e y f:Int} {js ks:List Nat} (h:EarlJ ls ch fr to at' x e js) (k:EarlJ ls ch fr to at' y f ks):x = y ∧ e = f ∧ js = ks:=by
  rcases h with ⟨h1,h2,h3,h4⟩ | ⟨h1,i,r,h2,h3,h4,h5⟩
  · rcases k with ⟨k1,k2,k3,_⟩ | ⟨_,i,r,_,k3,_,_⟩
    · exact ⟨by omega,by omega,h3.trans k3.symm⟩
    · exact absurd k3.fin.1 (h4 i r k3.is k3.beg)
  · rcases k with ⟨_,_,_,k4⟩ | ⟨k1,j,s,k2,k3,k4,k5⟩
    · exact absurd h3.fin.1 (k4 i r h3.is h3.beg)
    · have a1:=h5 j s k3.is k3.beg k3.fin.1;have a2:=k5 i r h3.is h3.beg h3.fin.1;have:x = y:=by omega
      subst this;obtain ⟨rfl,rfl⟩:=h3.eq k3;exact ⟨rfl,by omega,h2.trans k2.symm⟩
def PostRx (e0:Int) (fr to t0:Int) (J:Int → Int → List Nat → Prop) (H:Heap) (u:Value) (H':Heap):Prop:=
  ∃ (x e:Int) (jv:Value) (js:List Nat),u = .tuple ⟨[.int .i64 x,jv,.int .i64 e]⟩ ∧ Keep H H' ∧ jE.At H' js [jv] ∧
    (e0 ≠ 0 → x = 0 ∧ e = e0 ∧ js = []) ∧ (e0 = 0 → fr = to → x = t0 ∧ e = 0 ∧ js = []) ∧ (e0 = 0 → fr ≠ to → J x e js)
theorem jE_nilAt (H:Heap):jE.At H [] [.slice none 0 0]:=⟨⟨_,0,0,rfl,nilI H⟩,fun _ => rfl,fun h => absurd rfl h⟩

variable {S:AM.Sys} (hS:Only S 11)
include hS

end Go.Proofs.Yteechkbnccpicaa

namespace Go.Proofs.Yteechkbnccpicaa
open Go Go.AM
set_option maxRecDepth 10000

def BegD (fr d:Int) (x:Lg):Prop:=x.f = fr ∧ x.d = d
variable {ls:List Lg} {ch fr to by':Int} {all:List (List (List Nat))}
theorem FewR.none {d b:Int} (hA:AllLev ls ch (BegD fr d) all) (h:FewR ls to by' all []) (hD:DpI ls fr b ls.length d) (hno:∀ i r,Ch ls ch i r → (ls.getD i default).f = fr → b ≤ (ls.getD i default).d → ¬ EndsB to by' (ls.getD (lastN i r) default)) :
    ∀ i r,Ch ls ch i r → (ls.getD i default).f = fr → d ≤ (ls.getD i default).d → ¬ EndsB to by' (ls.getD (lastN i r) default):=fun i r h1 h2 h3 h4 => by
  rcases Int.lt_or_le (ls.getD i default).d b with hlt | hge
  · have h5:=hD.1 i h1.lt h2 hlt;have hB:BegD fr d (ls.getD i default):=⟨h2,by omega⟩
    obtain ⟨e1,e2,e3,_⟩:=hA.cov h1 hB;rcases h with ⟨_,g⟩ | ⟨_,_,_,_,_,g,_⟩
    · exact g _ _ e1 e2 e3 h4
    · exact g rfl
  · exact hno i r h1 h2 hge h4
theorem FewR.late {d b:Int} (hA:AllLev ls ch (BegD fr d) all) {x:List Nat} (hx:x ≠ []) (h:FewR ls to by' all x) (hD:DpI ls fr b ls.length d) (hno:∀ i r,Ch ls ch i r → (ls.getD i default).f = fr → b ≤ (ls.getD i default).d → ¬ EndsB to by' (ls.getD (lastN i r) default)) :
    LateJ ls ch fr to by' d 0 x:=by
  rcases h with ⟨g,_⟩ | ⟨k0,i0,h1,h2,h3,h4,h5,h7⟩
  · exact absurd g hx
  have hle:∀ i r,Ch ls ch i r → (ls.getD i default).f = fr → EndsB to by' (ls.getD (lastN i r) default) → (ls.getD i default).d ≤ d:=fun i r g1 g2 g3 => by
    rcases Int.lt_or_le (ls.getD i default).d b with hlt | hge
    · exact hD.1 i g1.lt g2 hlt
    · exact absurd g3 (hno i r g1 g2 hge)
  obtain ⟨j,s,e1,e2,e3,e4⟩:=hA.src h1 h2 (by rw [← h3]; exact h4)
  rw [e1] at h3;subst h3;refine .inr ⟨rfl,j,s,rfl,⟨e2,⟨e3.1,by rw [e3.2]; exact Int.le_refl _⟩,by rw [e4]; exact h5,fun j2 s2 g1 g2 g3 => ?_⟩,e3.2,hle⟩
  have g4:=hle j2 s2 g1 g2.1 g3;have g5:=g2.2;have hB:BegD fr d (ls.getD j2 default):=⟨g2.1,by omega⟩
  obtain ⟨f1,f2,f3,f4⟩:=hA.cov g1 hB;exact (h7 _ _ f1 f2 f3 g3).trans f4
theorem late_none {b z:Int} (hk:LOk ls ch) (hD:DpI ls fr b ls.length z) (hz:z < 0) (hno:∀ i r,Ch ls ch i r → (ls.getD i default).f = fr → b ≤ (ls.getD i default).d → ¬ EndsB to by' (ls.getD (lastN i r) default)):LateJ ls ch fr to by' 0 10 []:=
  .inl ⟨rfl,rfl,rfl,fun i r h1 h2 h3 => by
    rcases Int.lt_or_le (ls.getD i default).d b with hlt | hge
    · have:=hD.1 i h1.lt h2 hlt;have:=hk.leg i h1.lt;omega
    · exact hno i r h1 h2 hge h3⟩
theorem LateJ.eq {x e y f:Int} {js ks:List Nat} (h:LateJ ls ch fr to by' x e js) (k:LateJ ls ch fr to by' y f ks):x = y ∧ e = f ∧ js = ks:=by
  rcases h with ⟨h1,h2,h3,h4⟩ | ⟨h1,i,r,h2,h3,h4,h5⟩
  · rcases k with ⟨k1,k2,k3,_⟩ | ⟨_,i,r,_,k3,_,_⟩
    · exact ⟨by omega,by omega,h3.trans k3.symm⟩
    · exact absurd k3.fin (h4 i r k3.is k3.beg.1)
  · rcases k with ⟨_,_,_,k4⟩ | ⟨k1,j,s,k2,k3,k4,k5⟩
    · exact absurd h3.fin (k4 i r h3.is h3.beg.1)
    · have a1:=h5 j s k3.is k3.beg.1 k3.fin;have a2:=k5 i r h3.is h3.beg.1 h3.fin;have:x = y:=by omega
      subst this;obtain ⟨rfl,rfl⟩:=h3.eq k3;exact ⟨rfl,by omega,h2.trans k2.symm⟩

variable {S:AM.Sys} (hS:Only S 11)
include hS

set_option maxHeartbeats 8000000 in
theorem rFewest_runs (ls:List Lg) (a:Option Addr) (c r o:Nat) (all:List (List (List Nat))) (aa:Option Addr) (ac ar ao:Nat) (to by':Int) (H:Heap) (hL:H.low ≤ H.size) (hl:SlG H (.slice a ls.length c) ls r o) (h60:ls.length ≤ 60) (ha:SlE (sliceE jE) H (.slice aa all.length ac) all ar ao) (hal:all.length ≤ 10000)
    (hrow:∀ k,k < all.length → (all.getD k []).length = ls.length) (hc:∀ k' i',i' < ls.length → cell all k' i' ≠ [] → (cell all k' i').length = k' + 1) :
    ∃ v x,Runs Try.prog S (.fn 40) [.slice a ls.length c,.slice aa all.length ac,.int .i64 to,.int .i64 by'] H v H ∧ jE.At H x [v] ∧ FewR ls to by' all x:=by
  suffices h:WCall Try.prog S (.fn 40) [.slice a ls.length c,.slice aa all.length ac,.int .i64 to,.int .i64 by'] H (fun v H' => H' = H ∧ ∃ x,jE.At H x [v] ∧ FewR ls to by' all x) by
    obtain ⟨v,H',hr,rfl,x,h1,h2⟩:=h; exact ⟨v,x,hr,h1,h2⟩
  have hnil:jE.At H [] [.slice none 0 0]:=jE_nilAt H;refine Zabc Try.func40 rfl (Nat.le_of_ble_eq_true rfl) (hS.no rfl _ _) ?_
  rw [Try.ntmps40,Try.results40]
  repeat' simp only [↓Zabz,↓Zacb,↓Zaaj,↓Zabw,↓Zaca,↓Zacy,↓Zacx,↓Zadd,↓Zaan,↓bxPut,↓Zabu,↓Zabs,↓Zadb,↓Zadc,↓Zabg,Zabo,Nat.reduceLT, *]
  refine sxL_of (fun m ρ X => ∃ (k:Nat),m = all.length - k ∧ k ≤ all.length ∧ X = H ∧ (∀ k' i',k' < k → i' < ls.length → cell all k' i' ≠ [] → ¬ Qual ls to by' i') ∧ ρ 0 = .slice a ls.length c ∧ ρ 1 = .slice aa all.length ac ∧ ρ 2 = .int .i64 to ∧ ρ 3 = .int .i64 by' ∧ ρ 9 = .int .i64 (k:Int))
    ⟨0,rfl,Nat.zero_le _,rfl,fun k' i' h => absurd h (Nat.not_lt_zero k'),rfl,rfl,rfl,rfl,rfl⟩ ?_
  rintro m ρ X ⟨k,rfl,hk,rfl,hno,e0,e1,e2,e3,e9⟩
  by_cases hkl:k < all.length
  case neg =>
    have hkl':¬ (k:Int) < (all.length:Int):=by omega
    have hke:k = all.length:=Nat.le_antisymm hk (Nat.not_lt.1 hkl);rw [hke] at hno;have hpost:∃ x,jE.At X x [.slice none 0 0] ∧ FewR ls to by' all x:=⟨[],hnil,.inl ⟨rfl,hno⟩⟩
    clear hke hkl hk hno hl ha hrow hc hnil
    repeat' simp only [↓Zacc,↓Zabz,↓Zacb,↓Zaai,↓Zaaj,↓Zabw,↓Zaby,↓Zaca,↓Zacy,↓Zacx,↓Zadd,↓Zaaw,↓Zaan,↓Zaao,↓Zaau,↓bxPut,↓Zabu,↓Zabt,↓Zabv,↓Zaag,↓Zaah,↓Zaaf,↓Zabm,↓Zabl,↓Zabn,↓Zabs,↓Zadb,↓Zadc,↓Zade,↓Zabi,↓Zabg,Zacz,Zaae,Zabk,Zacv,Zabo,↓reduceIte,Nat.reduceEqDiff,Nat.reduceLT,dec_F,and_self,ne_eq, *,lenJJ]
  have hkl':(k:Int) < (all.length:Int):=by omega
  have hwk:IntKind.i64.wrap ((k:Int) + 1) = ((k + 1:Nat):Int):=IntWalk.i64_in _ (by omega)
  have hrk:=hrow k hkl
  repeat' simp only [↓Zacc,↓Zabz,↓Zacb,↓Zaai,↓Zaaj,↓Zabw,↓Zaby,↓Zaca,↓Zacy,↓Zacx,↓Zadd,↓Zaaw,↓Zaan,↓Zaao,↓Zaau,↓bxPut,↓Zabu,↓Zabt,↓Zabv,↓Zaag,↓Zaah,↓Zaaf,↓Zabm,↓Zabl,↓Zabn,↓Zabs,↓Zadb,↓Zadc,↓Zade,↓Zabi,↓Zabg,Zacz,Zaae,Zabk,Zacw,Zabo,↓reduceIte,Nat.reduceEqDiff,Nat.reduceLT,dec_T,ne_eq, *,lenJJ]
  refine sxL_of (fun m ρ Y => ∃ (i:Nat) (x:List Nat) (v:Value),m = ls.length - i ∧ i ≤ ls.length ∧ Y = X ∧ jE.At X x [v] ∧ FewI ls to by' all k i x ∧ ρ 0 = .slice a ls.length c ∧ ρ 1 = .slice aa all.length ac ∧ ρ 2 = .int .i64 to ∧ ρ 3 = .int .i64 by' ∧ ρ 9 = .int .i64 (k:Int) ∧ ρ 10 = v ∧ ρ 11 = .int .i64 (i:Int))
    ⟨0,[],_,rfl,Nat.zero_le _,rfl,hnil,FewI.zero,e0,e1,e2,e3,e9,rfl,rfl⟩ ?_
  clear e0 e1 e2 e3 e9 ρ hnil;rintro m ρ Y ⟨i,x,v,rfl,hi,rfl,hat,hbi,e0,e1,e2,e3,e9,e10,e11⟩;have hob:=jE_nil hat;obtain ⟨eqx,nex⟩:=hob
  by_cases hil:i < ls.length
  case neg =>
    have hil':¬ (i:Int) < (ls.length:Int):=by omega
    have hie:i = ls.length:=Nat.le_antisymm hi (Nat.not_lt.1 hil);rw [hie] at hbi
    by_cases hx:x = []
    · subst hx;replace nex:binP Try.prog .neq 25 v (.slice none 0 0) = some (.bool false):=nex;have hno2:∀ k' i',k' < k + 1 → i' < ls.length → cell all k' i' ≠ [] → ¬ Qual ls to by' i':=fun k' i' g1 g2 g3 => by
        rcases Nat.lt_or_ge k' k with h | h
        · exact hno k' i' h g2 g3
        · have:k' = k:=by omega
          subst this;rcases hbi with ⟨_,h2⟩ | ⟨_,_,_,h,_⟩
          · exact h2 i' g2 g3
          · exact absurd rfl h
      clear hie hil hi hbi hl ha hrow hc hrk hno hat eqx
      repeat' simp only [↓Zacc,↓Zabz,↓Zacb,↓Zaai,↓Zabw,↓Zaby,↓Zacy,↓Zacx,↓Zadd,↓Zabb,↓Zaaw,↓Zaan,↓Zaax,↓Zaav,↓Zaao,↓Zaas,↓Zaat,↓Zaba,↓Zaau,↓bxPut,↓Zabu,↓Zabt,↓Zaag,↓Zaaf,↓Zabm,↓Zabl,↓Zade,↓Zabi,↓Zabg,↓Zabh,↓dstAt,↓Zabj,Zacz,Zaae,Zabk,Zacd,Zacv,List.nil_append,↓reduceIte,Nat.reduceEqDiff,Nat.reduceLT,dec_F,true_and, *,lenG]
      exact ⟨all.length - (k + 1),by omega,k + 1,rfl,by omega,hno2,rfl⟩
    · have hex:x.isEmpty = false:=by cases h:x with | nil => exact absurd h hx | cons _ _ => rfl
      rw [hex] at nex;replace nex:binP Try.prog .neq 25 v (.slice none 0 0) = some (.bool true):=nex;have hpost:∃ x,jE.At Y x [v] ∧ FewR ls to by' all x:=⟨x,hat,hbi.found hkl hx hno hc⟩
      clear hie hil hi hbi hl ha hrow hc hrk hno hat eqx hex hx
      repeat' simp only [↓Zacc,↓Zabz,↓Zacb,↓Zaai,↓Zabw,↓Zaby,↓Zacy,↓Zacx,↓Zadd,↓Zabb,↓Zaaw,↓Zaan,↓Zaax,↓Zaav,↓Zaao,↓Zaas,↓Zaat,↓Zaba,↓Zaau,↓bxPut,↓Zabu,↓Zabt,↓Zaag,↓Zaaf,↓Zabm,↓Zabl,↓Zade,↓Zabi,↓Zabg,↓Zabh,↓dstAt,↓Zabj,Zacz,Zaae,Zabk,Zacd,Zacw,Zacv,List.nil_append,↓reduceIte,Nat.reduceEqDiff,Nat.reduceLT,dec_F,and_self, *,lenG]
  have hil':(i:Int) < (ls.length:Int):=by omega
  have hwi:IntKind.i64.wrap ((i:Int) + 1) = ((i + 1:Nat):Int):=IntWalk.i64_in _ (by omega)
  have hob:=cell_at ha hkl (i:=i) (by rw [hrk]; exact hil)
  obtain ⟨qa,a2,c2,r2,q2,vc,ix1,rd1,ix2,rd2,on2,atc⟩:=hob;have hob:=jE_nil atc;obtain ⟨_,nec⟩:=hob;have hob:=SlG_at hl hil;obtain ⟨qg,ixg,_,_,rt,_,ra,_⟩:=hob;clear hrk nex
  by_cases hcn:cell all k i = []
  · have hbi2:=hbi.skip (fun h => absurd hcn h)
    rw [hcn] at nec;replace nec:binP Try.prog .neq 25 vc (.slice none 0 0) = some (.bool false):=nec;clear hbi hl ha hrow hc atc hcn eqx hno
    repeat' simp only [↓Zacc,↓Zabz,↓Zacb,↓Zaai,↓Zabw,↓Zaby,↓Zacy,↓Zacx,↓Zadd,↓Zabb,↓Zaaw,↓Zaan,↓Zaax,↓Zaav,↓Zaao,↓Zaas,↓Zaat,↓Zaba,↓Zaau,↓bxPut,↓Zabu,↓Zabt,↓Zaag,↓Zaaf,↓Zabm,↓Zabl,↓Zade,↓Zabi,↓Zabg,↓Zabh,↓dstAt,↓Zabj,Zacz,Zaae,Zabk,Zaac,Zacd,sxGuardB_u,Zact,Zacw,Zacv,List.nil_append,↓reduceIte,Nat.reduceEqDiff,Nat.reduceLT,dec_T,true_and,one1,Option.bind_some, *,lenG,ldJ,ldIs]
    exact ⟨ls.length - (i + 1),by omega,i + 1,x,v,rfl,by omega,hat,hbi2,rfl,rfl⟩
  have hem:(cell all k i).isEmpty = false:=by cases h:cell all k i with | nil => exact absurd h hcn | cons _ _ => rfl
  rw [hem] at nec;replace nec:binP Try.prog .neq 25 vc (.slice none 0 0) = some (.bool true):=nec
  by_cases ht:(ls.getD i default).t = to
  case neg =>
    have dt:decide ((ls.getD i default).t = to) = false:=decide_eq_false ht;have hbi2:=hbi.skip (fun _ h => ht h.1)
    clear hbi hl ha hrow hc atc hcn ht hem eqx hno
    repeat' simp only [↓Zacc,↓Zabz,↓Zacb,↓Zaai,↓Zabw,↓Zaby,↓Zacy,↓Zacx,↓Zadd,↓Zabb,↓Zaaw,↓Zaan,↓Zaax,↓Zaav,↓Zaao,↓Zaas,↓Zaat,↓Zaba,↓Zaau,↓bxPut,↓Zabu,↓Zabt,↓Zaag,↓Zaaf,↓Zabm,↓Zabl,↓Zade,↓Zabi,↓Zabg,↓Zabh,↓dstAt,↓Zabj,Zacz,Zaae,Zabk,Zaad,Zaac,Zacd,sxGuardB_u,Zacu,Zact,Zacw,Zacv,List.nil_append,↓reduceIte,Nat.reduceEqDiff,Nat.reduceLT,dec_T,true_and,one1,Option.bind_some, *,lenG,ldJ,ldIs,ldC,faG1,one1]
    exact ⟨ls.length - (i + 1),by omega,i + 1,x,v,rfl,by omega,hat,hbi2,rfl,rfl⟩
  have dt:decide ((ls.getD i default).t = to) = true:=decide_eq_true ht
  by_cases hb:(ls.getD i default).a ≤ by'
  case neg =>
    have db:decide ((ls.getD i default).a ≤ by') = false:=decide_eq_false hb
    have hbi2:=hbi.skip (fun _ h => hb h.2)
    clear hbi hl ha hrow hc atc hcn ht hb hem eqx hno
    repeat' simp only [↓Zacc,↓Zabz,↓Zacb,↓Zaai,↓Zabw,↓Zaby,↓Zacy,↓Zacx,↓Zadd,↓Zabb,↓Zaaw,↓Zaan,↓Zaax,↓Zaav,↓Zaao,↓Zaas,↓Zaat,↓Zaba,↓Zaau,↓bxPut,↓Zabu,↓Zabt,↓Zaag,↓Zaaf,↓Zabm,↓Zabl,↓Zade,↓Zabi,↓Zabg,↓Zabh,↓dstAt,↓Zabj,Zacz,Zaae,Zabk,Zaad,Zaac,Zacd,sxGuardB_u,Zacu,Zact,Zacw,Zacv,List.nil_append,↓reduceIte,Nat.reduceEqDiff,Nat.reduceLT,dec_T,true_and,one1,Option.bind_some, *,lenG,ldJ,ldIs,ldC,faG1,faG3,one1]
    exact ⟨ls.length - (i + 1),by omega,i + 1,x,v,rfl,by omega,hat,hbi2,rfl,rfl⟩
  have db:decide ((ls.getD i default).a ≤ by') = true:=decide_eq_true hb
  have hq:Qual ls to by' i:=⟨ht,hb⟩
  by_cases hx:x = []
  · have hbi2:=hbi.take hcn hq (.inl hx);rw [hx] at eqx;replace eqx:binP Try.prog .eql 25 v (.slice none 0 0) = some (.bool true):=eqx;clear hbi hl ha hrow hc hcn ht hb hq hx hem hat hno
    repeat' simp only [↓Zacc,↓Zabz,↓Zacb,↓Zaai,↓Zabw,↓Zaby,↓Zacy,↓Zacx,↓Zadd,↓Zabb,↓Zaaw,↓Zaan,↓Zaax,↓Zaav,↓Zaao,↓Zaas,↓Zaat,↓Zaba,↓Zaau,↓bxPut,↓Zabu,↓Zabt,↓Zaag,↓Zaaf,↓Zabm,↓Zabl,↓Zade,↓Zabi,↓Zabg,↓Zabh,↓dstAt,↓Zabj,Zacz,Zaae,Zabk,Zaad,Zacd,Zacu,Zacs,Zacw,List.nil_append,↓reduceIte,Nat.reduceEqDiff,Nat.reduceLT,dec_T,true_and,one1,Option.bind_some, *,lenG,ldJ,ldIs,ldC,faG1,faG3,one1]
    exact ⟨ls.length - (i + 1),by omega,i + 1,_,vc,rfl,by omega,atc,hbi2,rfl,rfl⟩
  have hex:x.isEmpty = false:=by cases h:x with | nil => exact absurd h hx | cons _ _ => rfl
  rw [hex] at eqx;have hlc:=hc k i hil hcn;have hlx:=hbi.len hi hc hx;have hll:(cell all k i).length = x.length:=by omega
  rcases jE_cases atc with ⟨h,_⟩ | ⟨_,a5,c5,r5,o5,e5,s5⟩
  · exact absurd h hcn
  rcases jE_cases hat with ⟨h,_⟩ | ⟨_,a6,c6,r6,o6,e6,s6⟩
  · exact absurd h hx
  have f9:=(rLess_runs hS _ _ hll vc v _ _ _ _ Y hL s5 s6).bx;have hlx:=lexB_iff hll
  by_cases hle:lexle x (cell all k i)
  · have hb9:lexB (cell all k i) x = false:=Bool.eq_false_iff.2 (fun h => hlx.1 h hle)
    rw [hb9] at f9;have hbi2:=hbi.stay hx hle;clear hbi hl ha hrow hc hcn ht hb hq hx hem hex atc e5 e6 s5 s6 hlc hlx hll hle hb9 hno
    repeat' simp only [↓Zacc,↓Zabz,↓Zacb,↓Zaai,↓Zabw,↓Zaby,↓Zacy,↓Zacx,↓Zadd,↓Zabb,↓Zaaw,↓Zaan,↓Zaax,↓Zaav,↓Zaao,↓Zaas,↓Zaat,↓Zaba,↓Zaau,↓bxPut,↓Zabu,↓Zabt,↓Zaag,↓Zaaf,↓Zabm,↓Zabl,↓Zade,↓Zabi,↓Zabg,↓Zabh,↓dstAt,↓Zabj,Zacz,Zaae,Zabk,Zaad,Zaac,Zacd,Zacu,Zacr,Zacw,Zacv,List.map,List.nil_append,List.append_nil,↓reduceIte,Nat.reduceEqDiff,Nat.reduceLT,dec_T,true_and,one1,Option.bind_some, *,lenG,ldJ,ldIs,ldC,faG1,faG3,one1]
    exact ⟨ls.length - (i + 1),by omega,i + 1,x,v,rfl,by omega,hat,hbi2,rfl,rfl⟩
  · have hb9:lexB (cell all k i) x = true:=hlx.2 hle;rw [hb9] at f9;have hbi2:=hbi.take hcn hq (.inr ((lexle.total _ _).resolve_right hle));clear hbi hl ha hrow hc hcn ht hb hq hx hem hex hat e5 e6 s5 s6 hlc hlx hll hle hb9 hno
    repeat' simp only [↓Zacc,↓Zabz,↓Zacb,↓Zaai,↓Zabw,↓Zaby,↓Zacy,↓Zacx,↓Zadd,↓Zabb,↓Zaaw,↓Zaan,↓Zaax,↓Zaav,↓Zaao,↓Zaas,↓Zaat,↓Zaba,↓Zaau,↓bxPut,↓Zabu,↓Zabt,↓Zaag,↓Zaaf,↓Zabm,↓Zabl,↓Zade,↓Zabi,↓Zabg,↓Zabh,↓dstAt,↓Zabj,Zacz,Zaae,Zabk,Zaad,Zaac,Zacd,Zacu,Zacr,Zacw,List.map,List.nil_append,List.append_nil,↓reduceIte,Nat.reduceEqDiff,Nat.reduceLT,dec_T,true_and,one1,Option.bind_some, *,lenG,ldJ,ldIs,ldC,faG1,faG3,one1]
    exact ⟨ls.length - (i + 1),by omega,i + 1,_,vc,rfl,by omega,atc,hbi2,rfl,rfl⟩
end Go.Proofs.Yteechkbnccpicaa
