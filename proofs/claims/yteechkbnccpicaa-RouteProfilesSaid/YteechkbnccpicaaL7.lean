/- Profile, Earliest and Latest: the functions. -/
import Derived.Test.YteechkbnccpicaaL6
import Derived.Test.YteechkbnccpicaaQL
set_option linter.unusedVariables false
set_option linter.unusedSimpArgs false
set_option linter.unusedSectionVars false

namespace Go.Proofs.Yteechkbnccpicaa
open Go Go.AM
set_option maxRecDepth 10000

theorem LOk.of {n:Int} {ls:List Lg} {ch:Int} (h1:∀ x ∈ ls,LegOk n x) (h2:0 ≤ ch ∧ ch ≤ 100):LOk ls ch:=⟨fun i hi => by
  have h:LegOk n (ls.getD i default):=h1 _ (getD_mem hi)
  exact ⟨h.2.2.2.1,h.2.2.2.2.1,h.2.2.2.2.2.1⟩,h2⟩
theorem TT.of {ls:List Lg} {a:Option Addr} {c r o:Nat} {ch:Int} {H:Heap} {u:Value} {H':Heap} (h:PostT ls a c ch H u H') (hl:SlG H (.slice a ls.length c) ls r o) (h60:ls.length ≤ 60) (hk:LOk ls ch) :
    ∃ ro R,u = tvo ls a c ch ro ∧ Keep H H' ∧ H.size ≤ ro ∧ TT ls a c r o ch ro R H':=by
  obtain ⟨r0,d,R,h1,h2,h3,h4,h5,h6,h7,h8,h9,h10⟩:=h;exact ⟨r0,R,h1,h2,h4,⟨hl.keep h2,h60,h3,OrdOk.of h5 h6 h7 h8 h9 h10,hk⟩⟩
theorem nilI (H:Heap):SlI .i64 H (.slice none 0 0) [] 0 0:=⟨⟨none,0,rfl,fun h => absurd h (Nat.lt_irrefl 0)⟩,fun i hi => absurd hi (Nat.not_lt_zero i),fun h => absurd h (Nat.lt_irrefl 0),Nat.zero_le _⟩
def PostPr (n:Int) (ls:List Lg) (ch fr to:Int) (H:Heap) (u:Value) (H':Heap):Prop:=
  ∃ (x:Value) (Q:List Pt),u = .tuple ⟨[x,.int .i64 (errC n ls ch fr to [])]⟩ ∧ PtsIn H H' x Q.toArray ∧ Q.length ≤ 60 ∧ (errC n ls ch fr to [] ≠ 0 ∨ fr = to → Q = []) ∧ (errC n ls ch fr to [] = 0 → fr ≠ to → BestOf (JP ls ch fr to) Q)

variable {S:AM.Sys} (hS:Only S 11)
include hS

set_option maxHeartbeats 2000000 in
theorem Prof_runs (n:Int) (ls:List Lg) (lv:Value) (r o:Nat) (ch fr to:Int) (H:Heap) (hL:H.low ≤ H.size) (hg:Grp H) (hl:SlG H lv ls r o) :
    ∃ u H',Runs Try.prog S (.fn 21) [.int .i64 n,lv,.int .i64 ch,.int .i64 fr,.int .i64 to] H u H' ∧ PostPr n ls ch fr to H u H':=by
  suffices h:WCall Try.prog S (.fn 21) [.int .i64 n,lv,.int .i64 ch,.int .i64 fr,.int .i64 to] H (fun u H' => PostPr n ls ch fr to H u H') by
    obtain ⟨u,H',hr,h⟩:=h; exact ⟨u,H',hr,h⟩
  obtain ⟨a,c,rfl⟩:=hl.v0;obtain ⟨H2,k2,hR⟩:=check_runs hS n ls (.slice a ls.length c) r o ch fr to [] _ 0 0 H hl (nilI H);have f1:=hR.bx;replace f1:∀ (K:Value → Heap → Prop) (b:Blk K),sxCallB Try.prog S (.fn 34) [.int .i64 n,.slice a ls.length c,.int .i64 ch,.int .i64 fr,.int .i64 to,.slice none 0 0] H K b = K (.int .i64 (errC n ls ch fr to [])) H2:=f1;have hpost:∀ (x:Value) (e:Int) H',e = errC n ls ch fr to [] → (∃ Q:List Pt,PtsIn H H' x Q.toArray ∧ Q.length ≤ 60 ∧ (e ≠ 0 ∨ fr = to → Q = []) ∧ (e = 0 → fr ≠ to → BestOf (JP ls ch fr to) Q)) → PostPr n ls ch fr to H (.tuple ⟨[x,.int .i64 e]⟩) H':=fun x e H' he ⟨Q,h1,h2,h3,h4⟩ => by
    subst he;exact ⟨x,Q,rfl,h1,h2,h3,h4⟩
  obtain ⟨e,he⟩:∃ e,e = errC n ls ch fr to []:=⟨_,rfl⟩;rw [← he] at f1;clear hR;refine Zabc Try.func21 rfl (Nat.le_of_ble_eq_true rfl) (hS.no rfl _ _) ?_
  rw [Try.ntmps21,Try.results21]
  by_cases h0:e = 0
  · subst h0;obtain ⟨q1,q2,q3,q4⟩:=errC_zero he.symm;obtain ⟨u3,H3,hR3,hp3⟩:=newTT_runs hS ls a c r o ch H2 (k2.low hL) (k2.grp hg) (hl.keep k2) q1;obtain ⟨ro,R,rfl,k3,_,tt⟩:=TT.of hp3 (hl.keep k2) q1 (LOk.of q2 q3);have hK3:=k2.trans k3;obtain ⟨u4,H4,hR4,Q,hin,hbl,hb1,hb2⟩:=prof_runs hS tt fr to (hK3.low hL) (hK3.grp hg);have f3:=hR3.bx;have f4:=hR4.bx;have hin':PtsIn H H4 u4 Q.toArray:=by
      obtain ⟨i1,i2,i3,i4,i5⟩:=hin;refine ⟨i1,i2,hg,hK3.trans i4,?_⟩;rcases i5 with h | ⟨h1,b,r',k,h2,h3⟩
      · exact .inl h
      · exact .inr ⟨h1,b,r',k,h2,⟨hK3.trans i4,Nat.le_trans hK3.size h3.le,h3.ge,hg,(fun x hx => by cases hx),h3.row⟩⟩
    have hp:=hpost u4 0 H4 he ⟨Q,hin',by omega,fun h => hb1 (h.elim (fun h => absurd rfl h) id),fun _ h => hb2 h⟩
    have d0:decide (¬ (0:Int) = 0) = false:=rfl;unfold tvo tv at f3 f4;clear hR3 hR4 hp3 tt k2 k3 hK3 hin hin' hb1 hb2 hpost q1 q2 q3 q4 hl he
    repeat' (first | simp only [↓Zacc,↓Zabz,↓Zacb,↓Zaai,↓Zaca,↓Zacy,↓Zacx,↓Zadd,↓Zaaw,↓Zaan,↓Zaao,↓Zaba,↓bxPut,↓Zabu,↓Zabv,↓Zabs,↓Zadb,↓Zadc,↓Zade,↓Zabi,↓Zabg,↓Zabh,Zacz,Zaae,Zabk,Zacd,Zacv,Zabp,List.map_cons,List.map_nil,List.nil_append,List.append_nil,↓reduceIte,Nat.reduceEqDiff,Nat.reduceLT,dec_F,not_true_eq_false, *,argF,List.getD_cons_zero,List.getD_cons_succ,Zabp])
  · have hp:=hpost (.slice none 0 0) e H2 he ⟨[],PtsIn.nil k2 hg,Nat.zero_le _,fun _ => rfl,fun h => absurd h h0⟩
    have d0:decide (¬ e = 0) = true:=decide_eq_true h0;clear k2 hl he hpost
    repeat' (first | simp only [↓Zacc,↓Zabz,↓Zacb,↓Zaai,↓Zaca,↓Zacy,↓Zacx,↓Zadd,↓Zaaw,↓Zaan,↓Zaao,↓Zaba,↓bxPut,↓Zabu,↓Zabv,↓Zabs,↓Zadb,↓Zadc,↓Zade,↓Zabi,↓Zabg,↓Zabh,Zacz,Zaae,Zabk,Zacd,Zacw,Zabp,List.map_cons,List.map_nil,List.nil_append,List.append_nil,↓reduceIte,Nat.reduceEqDiff,Nat.reduceLT,dec_T,not_false_eq_true, *,argF,List.getD_cons_zero,List.getD_cons_succ,Zabp])
end Go.Proofs.Yteechkbnccpicaa

namespace Go.Proofs.Yteechkbnccpicaa
open Go Go.AM
set_option maxRecDepth 10000

theorem AscP.at {R:List Pt} (h:AscP R) {i j:Nat} (hij:i < j) (hj:j < R.length):(R.getD i default).1 < (R.getD j default).1 ∧ (R.getD i default).2 < (R.getD j default).2:=by
  have h1:=List.pairwise_iff_getElem.1 h i j (by omega) hj hij
  rw [List.getD_eq_getElem?_getD,List.getD_eq_getElem?_getD,List.getElem?_eq_getElem hj,List.getElem?_eq_getElem (by omega)]
  exact h1
variable {ls:List Lg} {ch fr to:Int} {Q:List Pt}
theorem JP.rng (hk:LOk ls ch) {d a:Int} (h:JP ls ch fr to d a):0 ≤ d ∧ d < a ∧ a ≤ 10000:=by
  obtain ⟨i,r,h1,h2,h3,h4,h5⟩:=h;have k1:=hk.leg i h1.lt;have k2:=hk.leg _ h1.last_lt;have k3:=h1.dep hk;omega
def EarlJ (ls:List Lg) (ch fr to at':Int) (x e:Int) (js:List Nat):Prop:=
  (e = 10 ∧ x = 0 ∧ js = [] ∧ ∀ i r,Ch ls ch i r → BegB fr at' (ls.getD i default) → (ls.getD (lastN i r) default).t ≠ to) ∨
  (e = 0 ∧ ∃ i r,js = i :: r ∧ Short ls ch (BegB fr at') (EndsB to x) i r ∧ (ls.getD (lastN i r) default).a = x ∧
    ∀ i r,Ch ls ch i r → BegB fr at' (ls.getD i default) → (ls.getD (lastN i r) default).t = to → x ≤ (ls.getD (lastN i r) default).a)
def LateJ (ls:List Lg) (ch fr to by':Int) (x e:Int) (js:List Nat):Prop:=
  (e = 10 ∧ x = 0 ∧ js = [] ∧ ∀ i r,Ch ls ch i r → (ls.getD i default).f = fr → ¬ EndsB to by' (ls.getD (lastN i r) default)) ∨
  (e = 0 ∧ ∃ i r,js = i :: r ∧ Short ls ch (BegB fr x) (EndsB to by') i r ∧ (ls.getD i default).d = x ∧
    ∀ i r,Ch ls ch i r → (ls.getD i default).f = fr → EndsB to by' (ls.getD (lastN i r) default) → (ls.getD i default).d ≤ x)
def PostE (e0:Int) (fr to t0:Int) (J:Int → Int → List Nat → Prop) (H:Heap) (u:Value) (H':Heap):Prop:=
  ∃ (x e:Int) (jv:Value) (js:List Nat),u = .tuple ⟨[.int .i64 x,jv,.int .i64 e]⟩ ∧ Keep H H' ∧ (js = [] → jv = .slice none 0 0) ∧ (js ≠ [] → JL H.size H' jv js) ∧
    (e0 ≠ 0 → x = 0 ∧ e = e0 ∧ js = []) ∧ (e0 = 0 → fr = to → x = t0 ∧ e = 0 ∧ js = []) ∧ (e0 = 0 → fr ≠ to → J x e js)
variable {S:AM.Sys} (hS:Only S 11)
include hS

end Go.Proofs.Yteechkbnccpicaa

namespace Go.Proofs.Yteechkbnccpicaa
open Go Go.AM
set_option maxRecDepth 10000

def TrV (H:Heap) (v:Value) (l:List Pt):Prop:=(∃ a c,v = .slice a l.length c) ∧ (0 < l.length → ∃ r o,SlE stE H v l r o)
def TripsJ (ls:List Lg) (ch fr to at':Int) (l:List Pt):Prop:=∃ (d ar:List Int) (least:Int),(∀ j,j < ls.length → CW ls ch (BegB fr at') j (d.getD j 0) ∧ (d.getD j 0 = 10060 ∨ (0 ≤ d.getD j 0 ∧ d.getD j 0 < ls.length))) ∧ ArrOk ls (EndsB to 10000) d ls.length ar ∧ TrOk ar 60 least l ∧ (least = 10060 ∨ ∃ p ∈ l,p.2 = least) ∧ (∀ x,x < 60 → 0 ≤ ar.getD x 0 ∧ ar.getD x 0 ≤ 10060)
def PostTp (ls:List Lg) (ch fr to at' e0:Int) (H:Heap) (u:Value) (H':Heap):Prop:=
  ∃ (v:Value) (l:List Pt) (e:Int),u = .tuple ⟨[v,.int .i64 e]⟩ ∧ Keep H H' ∧ TrV H' v l ∧ (e0 ≠ 0 → e = e0 ∧ l = []) ∧ (e0 = 0 → fr = to → e = 0 ∧ l = [(0,at')]) ∧ (e0 = 0 → fr ≠ to → TripsJ ls ch fr to at' l ∧ (l = [] → e = 10) ∧ (l ≠ [] → e = 0))
theorem TrV.nil (H:Heap):TrV H (.slice none 0 0) []:=⟨⟨none,0,rfl⟩,fun h => absurd h (Nat.lt_irrefl 0)⟩
theorem TrV.one (H:Heap) (x y:Int) (hx:R64 x) (hy:R64 y):TrV (H.newExact [.int .i64 x,.int .i64 y] 50) (.slice (some ⟨H.size,0,none⟩) 1 1) [(x,y)]:=
  ⟨⟨_,_,rfl⟩,fun _ => ⟨H.size,0,⟨_,_,rfl,fun _ => rfl⟩,fun i hi => by
    obtain rfl:i = 0:=by have:i < 1:=hi; omega
    exact ⟨_,(Own.new H [.int .i64 x,.int .i64 y] 50).read (o:=0) (n:=2) (by show 0 + 2 ≤ 2; decide),stE_at (x:=(x,y)) hx hy⟩,fun _ => (Own.new H [.int .i64 x,.int .i64 y] 50).lt,by show 1 ≤ Go.maxLen; decide⟩⟩
theorem TrV.lst {H:Heap} {v:Value} {l:List Pt} {L:Nat} (h:LstG stE 50 L H v l) (hl:l.length ≤ 60):TrV H v l:=by
  obtain ⟨a,hv⟩:=h.isv;refine ⟨⟨a,_,hv⟩,fun h0 => ?_⟩
  obtain ⟨r,hs,_⟩:=h.sl (by have:Go.maxLen = 9223372036854775807:=rfl; omega)
  exact ⟨r,0,hs⟩
variable {S:AM.Sys} (hS:Only S 11)
include hS

end Go.Proofs.Yteechkbnccpicaa

namespace Go.Proofs.Yteechkbnccpicaa
open Go Go.AM
set_option maxRecDepth 10000

variable {ls:List Lg} {ch fr to:Int} {Q:List Pt}
variable {S:AM.Sys} (hS:Only S 11)
include hS

end Go.Proofs.Yteechkbnccpicaa
