/- Profile, Earliest and Latest: the functions. -/
import Derived.Test.YteechkbnccpicaaL6
import Derived.Test.YteechkbnccpicaaQL
set_option linter.unusedVariables false
set_option linter.unusedSimpArgs false
set_option linter.unusedSectionVars false

namespace Go.Proofs.Yteechkbnccpicaa
open Go Go.AM
set_option maxRecDepth 10000

theorem LOk.of {n:Int} {ls:List Lg} {ch:Int} (h1:∀ x ∈ ls,LegOk n x) (h2:0 ≤ ch ∧ ch ≤ 100):LOk ls ch:=⟨fun i hi => by
  have h:LegOk n (ls.getD i default):=h1 _ (getD_mem hi)
  exact ⟨h.2.2.2.1,h.2.2.2.2.1,h.2.2.2.2.2.1⟩,h2⟩
theorem TT.of {ls:List Lg} {a:Option Addr} {c r o:Nat} {ch:Int} {H:Heap} {u:Value} {H':Heap} (h:PostT ls a c ch H u H') (hl:SlG H (.slice a ls.length c) ls r o) (h60:ls.length ≤ 60) (hk:LOk ls ch) :
    ∃ ro R,u = tvo ls a c ch ro ∧ Keep H H' ∧ H.size ≤ ro ∧ TT ls a c r o ch ro R H':=by
  obtain ⟨r0,d,R,h1,h2,h3,h4,h5,h6,h7,h8,h9,h10⟩:=h;exact ⟨r0,R,h1,h2,h4,⟨hl.keep h2,h60,h3,OrdOk.of h5 h6 h7 h8 h9 h10,hk⟩⟩
theorem nilI (H:Heap):SlI .i64 H (.slice none 0 0) [] 0 0:=⟨⟨none,0,rfl,fun h => absurd h (Nat.lt_irrefl 0)⟩,fun i hi => absurd hi (Nat.not_lt_zero i),fun h => absurd h (Nat.lt_irrefl 0),Nat.zero_le _⟩
def PostPr (n:Int) (ls:List Lg) (ch fr to:Int) (H:Heap) (u:Value) (H':Heap):Prop:=
  ∃ (x:Value) (Q:List Pt),u = .tuple ⟨[x,.int .i64 (errC n ls ch fr to [])]⟩ ∧ PtsIn H H' x Q.toArray ∧ Q.length ≤ 60 ∧ (errC n ls ch fr to [] ≠ 0 ∨ fr = to → Q = []) ∧ (errC n ls ch fr to [] = 0 → fr ≠ to → BestOf (JP ls ch fr to) Q)

variable {S:AM.Sys} (hS:Only S 11)
include hS

end Go.Proofs.Yteechkbnccpicaa

namespace Go.Proofs.Yteechkbnccpicaa
open Go Go.AM
set_option maxRecDepth 10000

theorem AscP.at {R:List Pt} (h:AscP R) {i j:Nat} (hij:i < j) (hj:j < R.length):(R.getD i default).1 < (R.getD j default).1 ∧ (R.getD i default).2 < (R.getD j default).2:=by
  have h1:=List.pairwise_iff_getElem.1 h i j (by omega) hj hij
  rw [List.getD_eq_getElem?_getD,List.getD_eq_getElem?_getD,List.getElem?_eq_getElem hj,List.getElem?_eq_getElem (by omega)]
  exact h1
theorem mem_at {R:List Pt} {p:Pt} (h:p ∈ R):∃ j,j < R.length ∧ p = R.getD j default:=by
  obtain ⟨j,hj,e⟩:=List.getElem_of_mem h;refine ⟨j,hj,?_⟩;rw [List.getD_eq_getElem?_getD,List.getElem?_eq_getElem hj,Option.getD_some,e]
theorem at_mem {R:List Pt} {j:Nat} (hj:j < R.length):R.getD j default ∈ R:=getD_mem hj
variable {ls:List Lg} {ch fr to:Int} {Q:List Pt}
theorem JP.rng (hk:LOk ls ch) {d a:Int} (h:JP ls ch fr to d a):0 ≤ d ∧ d < a ∧ a ≤ 10000:=by
  obtain ⟨i,r,h1,h2,h3,h4,h5⟩:=h;have k1:=hk.leg i h1.lt;have k2:=hk.leg _ h1.last_lt;have k3:=h1.dep hk;omega
theorem prof_ok (hk:LOk ls ch) (h:BestOf (JP ls ch fr to) Q) (hl:Q.length ≤ 60):ProfOk Q:=⟨by omega,fun k hk' => by
  have h1:=(h.mem _ (at_mem hk')).rng hk
  refine ⟨⟨h1.1,h1.2.1,by omega⟩,fun h0 => h.asc.at (by omega) hk'⟩⟩
def EarlJ (ls:List Lg) (ch fr to at':Int) (x e:Int) (js:List Nat):Prop:=
  (e = 10 ∧ x = 0 ∧ js = [] ∧ ∀ i r,Ch ls ch i r → BegB fr at' (ls.getD i default) → (ls.getD (lastN i r) default).t ≠ to) ∨
  (e = 0 ∧ ∃ i r,js = i :: r ∧ Short ls ch (BegB fr at') (EndsB to x) i r ∧ (ls.getD (lastN i r) default).a = x ∧
    ∀ i r,Ch ls ch i r → BegB fr at' (ls.getD i default) → (ls.getD (lastN i r) default).t = to → x ≤ (ls.getD (lastN i r) default).a)
def LateJ (ls:List Lg) (ch fr to by':Int) (x e:Int) (js:List Nat):Prop:=
  (e = 10 ∧ x = 0 ∧ js = [] ∧ ∀ i r,Ch ls ch i r → (ls.getD i default).f = fr → ¬ EndsB to by' (ls.getD (lastN i r) default)) ∨
  (e = 0 ∧ ∃ i r,js = i :: r ∧ Short ls ch (BegB fr x) (EndsB to by') i r ∧ (ls.getD i default).d = x ∧
    ∀ i r,Ch ls ch i r → (ls.getD i default).f = fr → EndsB to by' (ls.getD (lastN i r) default) → (ls.getD i default).d ≤ x)
theorem early_no (hk:LOk ls ch) (h:BestOf (JP ls ch fr to) Q) {at':Int} {k:Nat} (hf:FirstP Q at' k) (hn:¬ k < Q.length):∀ i r,Ch ls ch i r → BegB fr at' (ls.getD i default) → (ls.getD (lastN i r) default).t ≠ to:=fun i r h1 h2 h3 => by
  obtain ⟨p,hp,p1,p2⟩:=h.dom _ _ ⟨i,r,h1,h2.1,rfl,h3,rfl⟩;obtain ⟨j,hj,e⟩:=mem_at hp;have h4:=hf.2.1 j (by omega)
  rw [← e] at h4;have:=h2.2;omega
theorem early_yes (hk:LOk ls ch) (h:BestOf (JP ls ch fr to) Q) {at':Int} {k:Nat} (hf:FirstP Q at' k) (hn:k < Q.length) :
    (∃ i r,Ch ls ch i r ∧ BegB fr at' (ls.getD i default) ∧ EndsB to (Q.getD k default).2 (ls.getD (lastN i r) default)) ∧
    ∀ i r,Ch ls ch i r → BegB fr at' (ls.getD i default) → (ls.getD (lastN i r) default).t = to → (Q.getD k default).2 ≤ (ls.getD (lastN i r) default).a:=by
  constructor
  · obtain ⟨i,r,h1,h2,h3,h4,h5⟩:=h.mem _ (at_mem hn);have h6:=hf.2.2 hn;exact ⟨i,r,h1,⟨h2,by omega⟩,h4,by omega⟩
  · intro i r h1 h2 h3;obtain ⟨p,hp,p1,p2⟩:=h.dom _ _ ⟨i,r,h1,h2.1,rfl,h3,rfl⟩;obtain ⟨j,hj,e⟩:=mem_at hp;have hkj:k ≤ j:=by
      rcases Nat.lt_or_ge j k with h4 | h4
      · have h5:=hf.2.1 j h4;rw [← e] at h5;have:=h2.2;omega
      · exact h4
    rcases Nat.lt_or_ge k j with h4 | h4
    · have:=(h.asc.at h4 hj).2;rw [← e] at this;omega
    · have:j = k:=by omega
      subst this;rw [← e]; exact p2
theorem early_of {at' x:Int} {u:Bool} {js:List Nat} (he:∃ i r,Ch ls ch i r ∧ BegB fr at' (ls.getD i default) ∧ EndsB to x (ls.getD (lastN i r) default))
    (hm:∀ i r,Ch ls ch i r → BegB fr at' (ls.getD i default) → (ls.getD (lastN i r) default).t = to → x ≤ (ls.getD (lastN i r) default).a) {i:Nat} {r:List Nat} (hs:Short ls ch (BegB fr at') (EndsB to x) i r):EarlJ ls ch fr to at' x 0 (i :: r):=
  .inr ⟨rfl,i,r,rfl,hs,by have h1:=hm i r hs.is hs.beg hs.fin.1; have h2:=hs.fin.2; omega,hm⟩
def PostE (e0:Int) (fr to t0:Int) (J:Int → Int → List Nat → Prop) (H:Heap) (u:Value) (H':Heap):Prop:=
  ∃ (x e:Int) (jv:Value) (js:List Nat),u = .tuple ⟨[.int .i64 x,jv,.int .i64 e]⟩ ∧ Keep H H' ∧ (js = [] → jv = .slice none 0 0) ∧ (js ≠ [] → JL H.size H' jv js) ∧
    (e0 ≠ 0 → x = 0 ∧ e = e0 ∧ js = []) ∧ (e0 = 0 → fr = to → x = t0 ∧ e = 0 ∧ js = []) ∧ (e0 = 0 → fr ≠ to → J x e js)
variable {S:AM.Sys} (hS:Only S 11)
include hS

set_option maxHeartbeats 4000000 in
theorem Earl_runs (n:Int) (ls:List Lg) (lv:Value) (r o:Nat) (ch fr to at':Int) (hat:R64 at') (H:Heap) (hL:H.low ≤ H.size) (hg:Grp H) (hl:SlG H lv ls r o) :
    ∃ u H',Runs Try.prog S (.fn 13) [.int .i64 n,lv,.int .i64 ch,.int .i64 fr,.int .i64 to,.int .i64 at'] H u H' ∧ PostE (errC n ls ch fr to [at']) fr to at' (EarlJ ls ch fr to at') H u H':=by
  suffices h:WCall Try.prog S (.fn 13) [.int .i64 n,lv,.int .i64 ch,.int .i64 fr,.int .i64 to,.int .i64 at'] H (fun u H' => PostE (errC n ls ch fr to [at']) fr to at' (EarlJ ls ch fr to at') H u H') by
    obtain ⟨u,H',hr,h⟩:=h; exact ⟨u,H',hr,h⟩
  obtain ⟨a,c,rfl⟩:=hl.v0;have k1:=Keep.newExact H [.int .i64 at'] 3;have s1:=one_sl H at' hat;have b1:=bsI H at';obtain ⟨H1,hH1⟩:∃ H1,H1 = H.newExact [.int .i64 at'] 3:=⟨_,rfl⟩;rw [← hH1] at k1 s1 b1;obtain ⟨H2,k2,hR⟩:=check_runs hS n ls (.slice a ls.length c) r o ch fr to [at'] _ H.size 0 H1 (hl.keep k1) s1;have f1:=hR.bx;rw [show [at'].length = 1 from rfl] at f1
  have hK2:=k1.trans k2;obtain ⟨e,he⟩:∃ e,e = errC n ls ch fr to [at']:=⟨_,rfl⟩;rw [← he] at f1 ⊢;clear hH1 hR s1;refine Zaba Try.func13 rfl (Nat.le_of_ble_eq_true rfl) (hS.no rfl _ _) ?_
  rw [Try.ntmps13,Try.results13]
  by_cases h0:e = 0
  case neg =>
    have hp:PostE e fr to at' (EarlJ ls ch fr to at') H (.tuple ⟨[.int .i64 0,.slice none 0 0,.int .i64 e]⟩) H2:=⟨0,e,_,[],rfl,hK2,fun _ => rfl,fun h => absurd rfl h,fun _ => ⟨rfl,rfl,rfl⟩,fun h => absurd h h0,fun h => absurd h h0⟩
    have d0:decide (¬ e = 0) = true:=decide_eq_true h0;clear hK2 k1 k2 hl he
    repeat' simp only [↓Zaca,↓Zabx,↓Zabz,↓Zaai,↓Zaby,↓Zacw,↓Zacv,↓Zadb,↓Zaau,↓Zaam,↓Zaal,↓bxOp_build,↓Zaao,↓Zaat,↓Zaaw,↓Zaan,↓Zaax,↓Zaap,↓Zaay,↓Zacy,↓bxPut,↓Zabs,↓Zabt,↓Zabq,↓Zacz,↓Zada,↓Zadc,↓Zabg,↓Zabe,↓Zabf,Zacx,Zaae,Zabi,Zacb,Zacu,Zabn,List.map,List.nil_append,List.append_nil,↓reduceIte,Nat.reduceEqDiff,Nat.reduceLT,dec_T,not_false_eq_true, *,argF,List.getD_cons_zero,List.getD_cons_succ]
  subst h0;have d0:decide (¬ (0:Int) = 0) = false:=rfl;obtain ⟨q1,q2,q3,q4⟩:=errC_zero he.symm;have hlk:=LOk.of q2 q3
  by_cases hft:fr = to
  · have hp:PostE 0 fr to at' (EarlJ ls ch fr to at') H (.tuple ⟨[.int .i64 at',.slice none 0 0,.int .i64 0]⟩) H2:=⟨at',0,_,[],rfl,hK2,fun _ => rfl,fun h => absurd rfl h,fun h => absurd rfl h,fun _ _ => ⟨rfl,rfl,rfl⟩,fun _ h => absurd hft h⟩
    have d1:decide (fr = to) = true:=decide_eq_true hft;clear hK2 k1 k2 hl he hft
    repeat' simp only [↓Zaca,↓Zabx,↓Zabz,↓Zaai,↓Zaby,↓Zacw,↓Zacv,↓Zadb,↓Zaau,↓Zaam,↓Zaal,↓bxOp_build,↓Zaao,↓Zaat,↓Zaaw,↓Zaan,↓Zaax,↓Zaap,↓Zaay,↓Zacy,↓bxPut,↓Zabs,↓Zabt,↓Zabq,↓Zacz,↓Zada,↓Zadc,↓Zabg,↓Zabe,↓Zabf,Zacx,Zaae,Zabi,Zacb,Zacu,Zact,Zabn,List.map,List.nil_append,List.append_nil,↓reduceIte,Nat.reduceEqDiff,Nat.reduceLT,dec_F,not_true_eq_false, *,argF,List.getD_cons_zero,List.getD_cons_succ]
  have d1:decide (fr = to) = false:=decide_eq_false hft;obtain ⟨u3,H3,hR3,hp3⟩:=newTT_runs hS ls a c r o ch H2 (hK2.low hL) (hK2.grp hg) (hl.keep hK2) q1;obtain ⟨ro,R,rfl,k3,_,tt⟩:=TT.of hp3 (hl.keep hK2) q1 hlk;have hK3:=hK2.trans k3;have al4:=alT H3;obtain ⟨H4,st4,k4,t4⟩:=newT H3 a ls.length c ch (some ⟨ro,0,none⟩) ls.length ls.length;have hz4:H3.size < H4.size:=by
    obtain ⟨row,h1,_⟩:=read_inv t4;exact ((hK3.trans k4).grp hg).1 _ _ h1 |>.1
  have hK4:=hK3.trans k4;obtain ⟨u5,H5,hR5,Q,hin,hbl,_,hb⟩:=prof_runs hS (tt.keep k4) fr to (hK4.low hL) (hK4.grp hg);have hb:=hb hft;have k5:=hin.2.2.2.1;have hK5:=hK4.trans k5;obtain ⟨r5,s5,_⟩:=hin.sl;have s5:SlP H5 u5 Q r5 0:=s5;obtain ⟨k,H6,hfp,k6,hR6⟩:=look_runs hS Q u5 r5 0 at' H5 s5 (prof_ok hlk hb (by omega))
  have hK6:=hK5.trans k6;have t6:=(k5.trans k6).read hz4 t4;have f3:=hR3.bx;have f5:=hR5.bx;have f6:=hR6.bx;unfold tvo tv at f3 f5;have ex0:∀ x y:Value,aExtract (.tuple ⟨[x,y]⟩) 0 = some x:=fun x y => by kernel_rfl
  have ex1:∀ x y:Value,aExtract (.tuple ⟨[x,y]⟩) 1 = some y:=fun x y => by kernel_rfl
  by_cases hn:k < Q.length
  case neg =>
    rw [if_neg hn,decide_eq_false hn] at f6;have hp:PostE 0 fr to at' (EarlJ ls ch fr to at') H (.tuple ⟨[.int .i64 0,.slice none 0 0,.int .i64 10]⟩) H6:=⟨0,10,_,[],rfl,hK6,fun _ => rfl,fun h => absurd rfl h,fun h => absurd rfl h,fun _ h => absurd h hft,fun _ _ => .inl ⟨rfl,rfl,rfl,early_no hlk hb hfp hn⟩⟩
    clear hK2 hK3 hK4 hK5 hK6 k1 k2 k3 k4 k5 k6 hl he hft tt hin hb hR3 hR5 hR6 s5 hfp hn q1 q2 q3 q4 hlk hp3
    repeat' simp only [↓Zaca,↓Zabx,↓Zabz,↓Zaai,↓Zaby,↓Zacw,↓Zacv,↓Zadb,↓Zaau,↓Zaam,↓Zaal,↓bxOp_build,↓Zaao,↓Zaat,↓Zaaw,↓Zaan,↓Zaax,↓Zaap,↓Zaay,↓Zacy,↓bxPut,↓Zabs,↓Zabt,↓Zabq,↓Zacz,↓Zada,↓Zadc,↓Zabg,↓Zabe,↓Zabf,Zacx,Zaae,Zabi,una_nf,Zacb,Zacu,Zact,Zabn,List.map,List.nil_append,List.append_nil,↓reduceIte,Nat.reduceEqDiff,Nat.reduceLT,dec_F,not_true_eq_false,Option.map_some, *,argF,List.getD_cons_zero,List.getD_cons_succ,ldTt]
  rw [if_pos hn,decide_eq_true hn] at f6;obtain ⟨hex,hmin⟩:=early_yes hlk hb hfp hn;obtain ⟨x,hx⟩:∃ x,x = (Q.getD k default).2:=⟨_,rfl⟩;rw [← hx] at f6 hex hmin;obtain ⟨u7,H7,hR7,jv,b,js,rfl,k7,hj0,_,hsp⟩:=short_runs hS (tt.keep ((k4.trans k5).trans k6)) fr to at' x (hK6.low hL) (hK6.grp hg);have hsp:=hsp hft;rcases hsp with ⟨_,_,hno⟩ | ⟨rfl,hjl,i,rr,hji,hsh⟩
  · obtain ⟨i,rr,h1,h2,h3⟩:=hex;exact absurd h3 (hno i rr h1 h2)
  have hK7:=hK6.trans k7;have f7:=hR7.bx;have bw:=bdW fr to at' x
  have hp:PostE 0 fr to at' (EarlJ ls ch fr to at') H (.tuple ⟨[.int .i64 x,jv,.int .i64 0]⟩) H7:=⟨x,0,jv,js,rfl,hK7,hj0,fun _ => hjl.mono hK6.size,fun h => absurd rfl h,fun _ h => absurd h hft,fun _ _ => by
    rw [hji]
    exact early_of (u:=true) (js:=js) hex hmin hsh⟩
  unfold tvo tv wv at f7;clear hK2 hK3 hK4 hK5 hK6 hK7 k1 k2 k3 k4 k5 k6 k7 hl he hft tt hin hb hR3 hR5 hR6 hR7 s5 hfp hn q1 q2 q3 q4 hlk hp3 hex hmin hx hj0 hjl hsh hji
  repeat' simp only [↓Zaca,↓Zabx,↓Zabz,↓Zaai,↓Zaby,↓Zacw,↓Zacv,↓Zadb,↓Zaau,↓Zaam,↓Zaal,↓bxOp_build,↓Zaao,↓Zaat,↓Zaaw,↓Zaan,↓Zaax,↓Zaap,↓Zaay,↓Zacy,↓bxPut,↓Zabs,↓Zabt,↓Zabq,↓Zacz,↓Zada,↓Zadc,↓Zabg,↓Zabe,↓Zabf,Zacx,Zaae,Zabi,una_nt,Zacb,Zact,Zabn,List.map,List.nil_append,List.append_nil,↓reduceIte,Nat.reduceEqDiff,Nat.reduceLT,dec_F,not_true_eq_false,Option.map_some, *,argF,List.getD_cons_zero,List.getD_cons_succ,ldTt]
end Go.Proofs.Yteechkbnccpicaa

namespace Go.Proofs.Yteechkbnccpicaa
open Go Go.AM
set_option maxRecDepth 10000

def TrV (H:Heap) (v:Value) (l:List Pt):Prop:=(∃ a c,v = .slice a l.length c) ∧ (0 < l.length → ∃ r o,SlE stE H v l r o)
def TripsJ (ls:List Lg) (ch fr to at':Int) (l:List Pt):Prop:=∃ (d ar:List Int) (least:Int),(∀ j,j < ls.length → CW ls ch (BegB fr at') j (d.getD j 0) ∧ (d.getD j 0 = 10060 ∨ (0 ≤ d.getD j 0 ∧ d.getD j 0 < ls.length))) ∧ ArrOk ls (EndsB to 10000) d ls.length ar ∧ TrOk ar 60 least l ∧ (least = 10060 ∨ ∃ p ∈ l,p.2 = least) ∧ (∀ x,x < 60 → 0 ≤ ar.getD x 0 ∧ ar.getD x 0 ≤ 10060)
def PostTp (ls:List Lg) (ch fr to at' e0:Int) (H:Heap) (u:Value) (H':Heap):Prop:=
  ∃ (v:Value) (l:List Pt) (e:Int),u = .tuple ⟨[v,.int .i64 e]⟩ ∧ Keep H H' ∧ TrV H' v l ∧ (e0 ≠ 0 → e = e0 ∧ l = []) ∧ (e0 = 0 → fr = to → e = 0 ∧ l = [(0,at')]) ∧ (e0 = 0 → fr ≠ to → TripsJ ls ch fr to at' l ∧ (l = [] → e = 10) ∧ (l ≠ [] → e = 0))
theorem TrV.nil (H:Heap):TrV H (.slice none 0 0) []:=⟨⟨none,0,rfl⟩,fun h => absurd h (Nat.lt_irrefl 0)⟩
theorem TrV.one (H:Heap) (x y:Int) (hx:R64 x) (hy:R64 y):TrV (H.newExact [.int .i64 x,.int .i64 y] 50) (.slice (some ⟨H.size,0,none⟩) 1 1) [(x,y)]:=
  ⟨⟨_,_,rfl⟩,fun _ => ⟨H.size,0,⟨_,_,rfl,fun _ => rfl⟩,fun i hi => by
    obtain rfl:i = 0:=by have:i < 1:=hi; omega
    exact ⟨_,(Own.new H [.int .i64 x,.int .i64 y] 50).read (o:=0) (n:=2) (by show 0 + 2 ≤ 2; decide),stE_at (x:=(x,y)) hx hy⟩,fun _ => (Own.new H [.int .i64 x,.int .i64 y] 50).lt,by show 1 ≤ Go.maxLen; decide⟩⟩
theorem TrV.lst {H:Heap} {v:Value} {l:List Pt} {L:Nat} (h:LstG stE 50 L H v l) (hl:l.length ≤ 60):TrV H v l:=by
  obtain ⟨a,hv⟩:=h.isv;refine ⟨⟨a,_,hv⟩,fun h0 => ?_⟩
  obtain ⟨r,hs,_⟩:=h.sl (by have:Go.maxLen = 9223372036854775807:=rfl; omega)
  exact ⟨r,0,hs⟩
variable {S:AM.Sys} (hS:Only S 11)
include hS

end Go.Proofs.Yteechkbnccpicaa

namespace Go.Proofs.Yteechkbnccpicaa
open Go Go.AM
set_option maxRecDepth 10000

variable {ls:List Lg} {ch fr to:Int} {Q:List Pt}
variable {S:AM.Sys} (hS:Only S 11)
include hS

end Go.Proofs.Yteechkbnccpicaa
