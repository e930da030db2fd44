/- Profile, Earliest and Latest: the functions. -/
import Derived.Test.YteechkbnccpicaaL6
import Derived.Test.YteechkbnccpicaaQL
set_option linter.unusedVariables false
set_option linter.unusedSimpArgs false
set_option linter.unusedSectionVars false

namespace Go.Proofs.Yteechkbnccpicaa
open Go Go.AM
set_option maxRecDepth 10000

theorem LOk.of {n:Int} {ls:List Lg} {ch:Int} (h1:∀ x ∈ ls,LegOk n x) (h2:0 ≤ ch ∧ ch ≤ 100):LOk ls ch:=⟨fun i hi => by
  have h:LegOk n (ls.getD i default):=h1 _ (getD_mem hi)
  exact ⟨h.2.2.2.1,h.2.2.2.2.1,h.2.2.2.2.2.1⟩,h2⟩
theorem TT.of {ls:List Lg} {a:Option Addr} {c r o:Nat} {ch:Int} {H:Heap} {u:Value} {H':Heap} (h:PostT ls a c ch H u H') (hl:SlG H (.slice a ls.length c) ls r o) (h60:ls.length ≤ 60) (hk:LOk ls ch) :
    ∃ ro R,u = tvo ls a c ch ro ∧ Keep H H' ∧ H.size ≤ ro ∧ TT ls a c r o ch ro R H':=by
  obtain ⟨r0,d,R,h1,h2,h3,h4,h5,h6,h7,h8,h9,h10⟩:=h;exact ⟨r0,R,h1,h2,h4,⟨hl.keep h2,h60,h3,OrdOk.of h5 h6 h7 h8 h9 h10,hk⟩⟩
def PostPr (n:Int) (ls:List Lg) (ch fr to:Int) (H:Heap) (u:Value) (H':Heap):Prop:=
  ∃ (x:Value) (Q:List Pt),u = .tuple ⟨[x,.int .i64 (errC n ls ch fr to [])]⟩ ∧ PtsIn H H' x Q.toArray ∧ Q.length ≤ 60 ∧ (errC n ls ch fr to [] ≠ 0 ∨ fr = to → Q = []) ∧ (errC n ls ch fr to [] = 0 → fr ≠ to → BestOf (JP ls ch fr to) Q)

variable {S:AM.Sys} (hS:Only S 11)
include hS

end Go.Proofs.Yteechkbnccpicaa

namespace Go.Proofs.Yteechkbnccpicaa
open Go Go.AM
set_option maxRecDepth 10000

theorem AscP.at {R:List Pt} (h:AscP R) {i j:Nat} (hij:i < j) (hj:j < R.length):(R.getD i default).1 < (R.getD j default).1 ∧ (R.getD i default).2 < (R.getD j default).2:=by
  have h1:=List.pairwise_iff_getElem.1 h i j (by omega) hj hij
  rw [List.getD_eq_getElem?_getD,List.getD_eq_getElem?_getD,List.getElem?_eq_getElem hj,List.getElem?_eq_getElem (by omega)]
  exact h1
variable {ls:List Lg} {ch fr to:Int} {Q:List Pt}
theorem JP.rng (hk:LOk ls ch) {d a:Int} (h:JP ls ch fr to d a):0 ≤ d ∧ d < a ∧ a ≤ 10000:=by
  obtain ⟨i,r,h1,h2,h3,h4,h5⟩:=h;have k1:=hk.leg i h1.lt;have k2:=hk.leg _ h1.last_lt;have k3:=h1.dep hk;omega
def EarlJ (ls:List Lg) (ch fr to at':Int) (x e:Int) (js:List Nat):Prop:=
  (e = 10 ∧ x = 0 ∧ js = [] ∧ ∀ i r,Ch ls ch i r → BegB fr at' (ls.getD i default) → (ls.getD (lastN i r) default).t ≠ to) ∨
  (e = 0 ∧ ∃ i r,js = i :: r ∧ Short ls ch (BegB fr at') (EndsB to x) i r ∧ (ls.getD (lastN i r) default).a = x ∧
    ∀ i r,Ch ls ch i r → BegB fr at' (ls.getD i default) → (ls.getD (lastN i r) default).t = to → x ≤ (ls.getD (lastN i r) default).a)
def LateJ (ls:List Lg) (ch fr to by':Int) (x e:Int) (js:List Nat):Prop:=
  (e = 10 ∧ x = 0 ∧ js = [] ∧ ∀ i r,Ch ls ch i r → (ls.getD i default).f = fr → ¬ EndsB to by' (ls.getD (lastN i r) default)) ∨
  (e = 0 ∧ ∃ i r,js = i :: r ∧ Short ls ch (BegB fr x) (EndsB to by') i r ∧ (ls.getD i default).d = x ∧
    ∀ i r,Ch ls ch i r → (ls.getD i default).f = fr → EndsB to by' (ls.getD (lastN i r) default) → (ls.getD i default).d ≤ x)
def PostE (e0:Int) (fr to t0:Int) (J:Int → Int → List Nat → Prop) (H:Heap) (u:Value) (H':Heap):Prop:=
  ∃ (x e:Int) (jv:Value) (js:List Nat),u = .tuple ⟨[.int .i64 x,jv,.int .i64 e]⟩ ∧ Keep H H' ∧ (js = [] → jv = .slice none 0 0) ∧ (js ≠ [] → JL H.size H' jv js) ∧
    (e0 ≠ 0 → x = 0 ∧ e = e0 ∧ js = []) ∧ (e0 = 0 → fr = to → x = t0 ∧ e = 0 ∧ js = []) ∧ (e0 = 0 → fr ≠ to → J x e js)
variable {S:AM.Sys} (hS:Only S 11)
include hS

end Go.Proofs.Yteechkbnccpicaa

namespace Go.Proofs.Yteechkbnccpicaa
open Go Go.AM
set_option maxRecDepth 10000

def TrV (H:Heap) (v:Value) (l:List Pt):Prop:=(∃ a c,v = .slice a l.length c) ∧ (0 < l.length → ∃ r o,SlE stE H v l r o)
def TripsJ (ls:List Lg) (ch fr to at':Int) (l:List Pt):Prop:=∃ (d ar:List Int) (least:Int),(∀ j,j < ls.length → CW ls ch (BegB fr at') j (d.getD j 0) ∧ (d.getD j 0 = 10060 ∨ (0 ≤ d.getD j 0 ∧ d.getD j 0 < ls.length))) ∧ ArrOk ls (EndsB to 10000) d ls.length ar ∧ TrOk ar 60 least l ∧ (least = 10060 ∨ ∃ p ∈ l,p.2 = least) ∧ (∀ x,x < 60 → 0 ≤ ar.getD x 0 ∧ ar.getD x 0 ≤ 10060)
def PostTp (ls:List Lg) (ch fr to at' e0:Int) (H:Heap) (u:Value) (H':Heap):Prop:=
  ∃ (v:Value) (l:List Pt) (e:Int),u = .tuple ⟨[v,.int .i64 e]⟩ ∧ Keep H H' ∧ TrV H' v l ∧ (e0 ≠ 0 → e = e0 ∧ l = []) ∧ (e0 = 0 → fr = to → e = 0 ∧ l = [(0,at')]) ∧ (e0 = 0 → fr ≠ to → TripsJ ls ch fr to at' l ∧ (l = [] → e = 10) ∧ (l ≠ [] → e = 0))
theorem TrV.nil (H:Heap):TrV H (.slice none 0 0) []:=⟨⟨none,0,rfl⟩,fun h => absurd h (Nat.lt_irrefl 0)⟩
theorem TrV.one (H:Heap) (x y:Int) (hx:R64 x) (hy:R64 y):TrV (H.newExact [.int .i64 x,.int .i64 y] 50) (.slice (some ⟨H.size,0,none⟩) 1 1) [(x,y)]:=
  ⟨⟨_,_,rfl⟩,fun _ => ⟨H.size,0,⟨_,_,rfl,fun _ => rfl⟩,fun i hi => by
    obtain rfl:i = 0:=by have:i < 1:=hi; omega
    exact ⟨_,(Own.new H [.int .i64 x,.int .i64 y] 50).read (o:=0) (n:=2) (by show 0 + 2 ≤ 2; decide),stE_at (x:=(x,y)) hx hy⟩,fun _ => (Own.new H [.int .i64 x,.int .i64 y] 50).lt,by show 1 ≤ Go.maxLen; decide⟩⟩
theorem TrV.lst {H:Heap} {v:Value} {l:List Pt} {L:Nat} (h:LstG stE 50 L H v l) (hl:l.length ≤ 60):TrV H v l:=by
  obtain ⟨a,hv⟩:=h.isv;refine ⟨⟨a,_,hv⟩,fun h0 => ?_⟩
  obtain ⟨r,hs,_⟩:=h.sl (by have:Go.maxLen = 9223372036854775807:=rfl; omega)
  exact ⟨r,0,hs⟩
theorem lenT (a:Option Addr) (n c:Nat):aLen Try.prog #[46] (.slice a n c) = some (.int .i64 n):=by kernel_rfl

variable {S:AM.Sys} (hS:Only S 11)
include hS

set_option maxHeartbeats 4000000 in
theorem Trips_runs (n:Int) (ls:List Lg) (lv:Value) (r o:Nat) (ch fr to at':Int) (hat:R64 at') (H:Heap) (hL:H.low ≤ H.size) (hg:Grp H) (hl:SlG H lv ls r o) :
    ∃ u H',Runs Try.prog S (.fn 27) [.int .i64 n,lv,.int .i64 ch,.int .i64 fr,.int .i64 to,.int .i64 at'] H u H' ∧ PostTp ls ch fr to at' (errC n ls ch fr to [at']) H u H':=by
  suffices h:WCall Try.prog S (.fn 27) [.int .i64 n,lv,.int .i64 ch,.int .i64 fr,.int .i64 to,.int .i64 at'] H (fun u H' => PostTp ls ch fr to at' (errC n ls ch fr to [at']) H u H') by
    obtain ⟨u,H',hr,h⟩:=h; exact ⟨u,H',hr,h⟩
  obtain ⟨a,c,rfl⟩:=hl.v0;have k1:=Keep.newExact H [.int .i64 at'] 3;have s1:=one_sl H at' hat;have b1:=bsI H at';obtain ⟨H1,hH1⟩:∃ H1,H1 = H.newExact [.int .i64 at'] 3:=⟨_,rfl⟩;rw [← hH1] at k1 s1 b1;obtain ⟨H2,k2,hR⟩:=check_runs hS n ls (.slice a ls.length c) r o ch fr to [at'] _ H.size 0 H1 (hl.keep k1) s1;have f1:=hR.bx;rw [show [at'].length = 1 from rfl] at f1
  have hK2:=k1.trans k2;obtain ⟨e,he⟩:∃ e,e = errC n ls ch fr to [at']:=⟨_,rfl⟩;rw [← he] at f1 ⊢;clear hH1 hR s1;refine Zabc Try.func27 rfl (Nat.le_of_ble_eq_true rfl) (hS.no rfl _ _) ?_
  rw [Try.ntmps27,Try.results27]
  by_cases h0:e = 0
  case neg =>
    have hp:PostTp ls ch fr to at' e H (.tuple ⟨[.slice none 0 0,.int .i64 e]⟩) H2:=⟨_,[],e,rfl,hK2,TrV.nil _,fun _ => ⟨rfl,rfl⟩,fun h => absurd h h0,fun h => absurd h h0⟩
    have d0:decide (¬ e = 0) = true:=decide_eq_true h0;clear hK2 k1 k2 hl he
    repeat' (first | simp only [↓Zacc,↓Zabz,↓Zacb,↓Zaai,↓Zaca,↓Zacy,↓Zacx,↓Zadd,↓Zaaw,↓Zaan,↓Zaap,↓Zaaq,↓Zaao,↓Zaba,↓Zaau,↓bxPut,↓Zabu,↓Zabv,↓Zabs,↓Zadb,↓Zadc,↓Zade,↓Zabi,↓Zabg,↓Zabh,Zacz,Zaae,Zabk,Zacd,Zacw,Zabp,List.map_cons,List.map_nil,List.nil_append,List.append_nil,↓reduceIte,Nat.reduceEqDiff,Nat.reduceLT,dec_T,not_false_eq_true, *,argF,List.getD_cons_zero,List.getD_cons_succ,Zabp])
  subst h0;have d0:decide (¬ (0:Int) = 0) = false:=rfl;obtain ⟨q1,q2,q3,q4⟩:=errC_zero he.symm;have hlk:=LOk.of q2 q3
  by_cases hft:fr = to
  · have bd:=bdTr 0 at';have bs:=bs1T H2 0 at';have hp:PostTp ls ch fr to at' 0 H (.tuple ⟨[.slice (some ⟨H2.size,0,none⟩) 1 1,.int .i64 0]⟩) (H2.newExact [.int .i64 0,.int .i64 at'] 50):=⟨_,[(0,at')],0,rfl,hK2.trans (Keep.newExact _ _ _),TrV.one H2 0 at' ⟨by decide,by decide⟩ hat,fun h => absurd rfl h,fun _ _ => ⟨rfl,rfl⟩,fun _ h => absurd hft h⟩
    have d1:decide (fr = to) = true:=decide_eq_true hft;obtain ⟨H3,hH3⟩:∃ H3,H3 = H2.newExact [.int .i64 0,.int .i64 at'] 50:=⟨_,rfl⟩;rw [← hH3] at bs hp;clear hK2 k1 k2 hl he hft hH3
    repeat' (first | simp only [↓Zacc,↓Zabz,↓Zacb,↓Zaai,↓Zaca,↓Zacy,↓Zacx,↓Zadd,↓Zaaw,↓Zaan,↓Zaap,↓Zaaq,↓Zaao,↓Zaba,↓Zaau,↓bxPut,↓Zabu,↓Zabv,↓Zabs,↓Zadb,↓Zadc,↓Zade,↓Zabi,↓Zabg,↓Zabh,Zacz,Zaae,Zabk,Zacd,Zacw,Zacv,Zabp,List.map_cons,List.map_nil,List.nil_append,List.append_nil,↓reduceIte,Nat.reduceEqDiff,Nat.reduceLT,dec_F,not_true_eq_false, *,argF,List.getD_cons_zero,List.getD_cons_succ,Zabp])
  have d1:decide (fr = to) = false:=decide_eq_false hft;obtain ⟨u3,H3,hR3,hp3⟩:=newTT_runs hS ls a c r o ch H2 (hK2.low hL) (hK2.grp hg) (hl.keep hK2) q1;obtain ⟨ro,R,rfl,k3,_,tt⟩:=TT.of hp3 (hl.keep hK2) q1 hlk;have hK3:=hK2.trans k3;obtain ⟨u5,H5,hR5,dd,ar,l,least,hcw,hok,htr,hlm,har0,k5,g5,hll,L,_,_,hlst⟩:=trips_runs hS tt fr to at' 10000 (hK3.low hL) (hK3.grp hg);have hK5:=hK3.trans k5;have f3:=hR3.bx;have f5:=hR5.bx;unfold tvo tv wv at f5;unfold tvo tv at f3;have bw:=bdW fr to at' 10000;have hv:=TrV.lst hlst hll;have hv0:=hv.1;obtain ⟨a5,c5,rfl⟩:=hv0;have hj:TripsJ ls ch fr to at' l:=⟨dd,ar,least,hcw,hok,htr,hlm,har0⟩
  by_cases hle:l.length = 0
  · have hle':l = []:=List.eq_nil_of_length_eq_zero hle;have d2:decide (((l.length:Nat):Int) = 0) = true:=decide_eq_true (by omega)
    have hp:PostTp ls ch fr to at' 0 H (.tuple ⟨[.slice none 0 0,.int .i64 10]⟩) H5:=⟨_,[],10,rfl,hK5,TrV.nil _,fun h => absurd rfl h,fun _ h => absurd h hft,fun _ _ => ⟨hle' ▸ hj,fun _ => rfl,fun h => absurd rfl h⟩⟩
    clear hK2 k1 k2 hl he hft hK3 k3 hK5 k5 hv hj hlst hle hle' tt hcw hok htr hlm har0 hR3 hR5 hp3
    repeat' (first | simp only [↓Zacc,↓Zabz,↓Zacb,↓Zaai,↓Zaca,↓Zacy,↓Zacx,↓Zadd,↓Zaaw,↓Zaan,↓Zaap,↓Zaaq,↓Zaao,↓Zaba,↓Zaau,↓bxPut,↓Zabu,↓Zabv,↓Zabs,↓Zadb,↓Zadc,↓Zade,↓Zabi,↓Zabg,↓Zabh,Zacz,Zaae,Zabk,Zacd,Zacw,Zacv,Zabp,List.map_cons,List.map_nil,List.nil_append,List.append_nil,↓reduceIte,Nat.reduceEqDiff,Nat.reduceLT,dec_F,not_true_eq_false, *,argF,List.getD_cons_zero,List.getD_cons_succ,Zabp,lenT])
  · have d2:decide (((l.length:Nat):Int) = 0) = false:=decide_eq_false (by omega)
    have hp:PostTp ls ch fr to at' 0 H (.tuple ⟨[.slice a5 l.length c5,.int .i64 0]⟩) H5:=⟨_,l,0,rfl,hK5,hv,fun h => absurd rfl h,fun _ h => absurd h hft,fun _ _ => ⟨hj,fun h => absurd (by rw [h]; rfl) hle,fun _ => rfl⟩⟩
    clear hK2 k1 k2 hl he hft hK3 k3 hK5 k5 hv hj hlst hle tt hcw hok htr hlm har0 hR3 hR5 hp3
    repeat' (first | simp only [↓Zacc,↓Zabz,↓Zacb,↓Zaai,↓Zaca,↓Zacy,↓Zacx,↓Zadd,↓Zaaw,↓Zaan,↓Zaap,↓Zaaq,↓Zaao,↓Zaba,↓Zaau,↓bxPut,↓Zabu,↓Zabv,↓Zabs,↓Zadb,↓Zadc,↓Zade,↓Zabi,↓Zabg,↓Zabh,Zacz,Zaae,Zabk,Zacd,Zacv,Zabp,List.map_cons,List.map_nil,List.nil_append,List.append_nil,↓reduceIte,Nat.reduceEqDiff,Nat.reduceLT,dec_F,not_true_eq_false, *,argF,List.getD_cons_zero,List.getD_cons_succ,Zabp,lenT])
end Go.Proofs.Yteechkbnccpicaa

namespace Go.Proofs.Yteechkbnccpicaa
open Go Go.AM
set_option maxRecDepth 10000

variable {ls:List Lg} {ch fr to:Int} {Q:List Pt}
variable {S:AM.Sys} (hS:Only S 11)
include hS

end Go.Proofs.Yteechkbnccpicaa
