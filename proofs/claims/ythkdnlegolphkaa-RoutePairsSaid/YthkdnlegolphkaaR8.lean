/- The program's Is. -/
import Derived.Test.YthkdnlegolphkaaR7
import Derived.Test.YthkdnlegolphkaaT6
import Derived.Test.YthkdnlegolphkaaQM
set_option linter.unusedVariables false
set_option linter.unusedSimpArgs false
set_option linter.unusedSectionVars false

namespace Go.Proofs.Ythkdnlegolphkaa
open Go Go.AM
set_option maxRecDepth 10000

variable {S:AM.Sys} (hS:Only S 10)
include hS

def PostQ (H:Heap) (e:Int) (J:Bool → Prop) (u:Value) (H':Heap):Prop:=∃ b,u = .tuple ⟨[.bool b,.int .i64 e]⟩ ∧ Keep H H' ∧ (e ≠ 0 → b = false) ∧ (e = 0 → J b)

set_option maxHeartbeats 2000000 in
theorem Is_runs (n:Int) (ls:List Lg) (lv:Value) (r o:Nat) (ch fr to at':Int) (js:List Int) (jv:Value) (r2 o2:Nat) (H:Heap) (hL:H.low ≤ H.size) (hg:Grp H) (hl:SlG H lv ls r o) (hj:SlI .i64 H jv js r2 o2) (hat:R64 at') (hmj:js.length ≤ 100000) :
    ∃ u H',Runs Try.prog S (.fn 12) [.int .i64 n,lv,.int .i64 ch,.int .i64 fr,.int .i64 to,.int .i64 at',jv] H u H' ∧ PostQ H (errC n ls ch fr to [at']) (IsJ ls ch fr to at' 10000 js) u H':=by
  suffices h:WCall Try.prog S (.fn 12) [.int .i64 n,lv,.int .i64 ch,.int .i64 fr,.int .i64 to,.int .i64 at',jv] H (fun u H' => PostQ H (errC n ls ch fr to [at']) (IsJ ls ch fr to at' 10000 js) u H') by
    obtain ⟨u,H',hr,h⟩:=h; exact ⟨u,H',hr,h⟩
  obtain ⟨a,c,rfl⟩:=hl.v0;obtain ⟨a2,c2,rfl⟩:=hj.v0;have k1:=Keep.newExact H [.int .i64 at'] 3;have s1:=one_sl H at' hat;have b1:=bsI H at';obtain ⟨H1,hH1⟩:∃ H1,H1 = H.newExact [.int .i64 at'] 3:=⟨_,rfl⟩;rw [← hH1] at k1 s1 b1;obtain ⟨H2,k2,hR⟩:=check_runs hS n ls (.slice a ls.length c) r o ch fr to [at'] _ H.size 0 H1 (hl.keep k1) s1;have f1:=hR.bx;rw [show [at'].length = 1 from rfl] at f1
  have hK2:=k1.trans k2;obtain ⟨e,he⟩:∃ e,e = errC n ls ch fr to [at']:=⟨_,rfl⟩;rw [← he] at f1 ⊢;clear hH1 hR s1;refine Zaba Try.func12 rfl (Nat.le_of_ble_eq_true rfl) (hS.no rfl _ _) ?_
  rw [Try.ntmps12,Try.results12]
  by_cases h0:e = 0
  · subst h0;obtain ⟨q1,q2,q3,q4⟩:=errC_zero he.symm;have hfit:∀ i,i < ls.length → Fit ch (ls.getD i default):=fun i hi => by
      have h:LegOk n (ls.getD i default):=q2 _ (getD_mem hi);have h4:=h.2.2.2.1;have h5:=h.2.2.2.2.1;have h6:=h.2.2.2.2.2.1;exact ⟨by omega,by omega⟩
    obtain ⟨u3,H3,hR3,r0,d,R,rfl,k3,_⟩:=newTT_runs hS ls a c r o ch H2 (hK2.low hL) (hK2.grp hg) (hl.keep hK2) q1;have f2:=hR3.bx;unfold tv at f2;obtain ⟨H4,st4,k4,t4⟩:=newT H3 a ls.length c ch (some ⟨r0,0,none⟩) ls.length ls.length;have al4:=alT H3;have hK4:=(hK2.trans k3).trans k4;obtain ⟨u5,H5,hR5,b,rfl,hb,k5⟩:=isJ_runs hS ls a c r o ch (.slice (some ⟨r0,0,none⟩) ls.length ls.length) fr to at' 10000 js a2 c2 r2 o2 H4 (hK4.low hL) (hl.keep hK4) (hj.keep hK4) q1 hmj hfit;have f3:=hR5.bx;unfold tv wv at f3;have hp:PostQ H 0 (IsJ ls ch fr to at' 10000 js) (.tuple ⟨[.bool b,.int .i64 0]⟩) H5:=⟨b,rfl,hK4.trans k5,fun h => absurd rfl h,fun _ => hb⟩
    have bw:=bdW fr to at' 10000;clear hR3 hR5 hK2 hK4 k1 k2 k3 k4 k5 hb hfit q1 q2 q3 q4 hl hj he
    repeat' (first | simp only [↓Zaca,↓Zabx,↓Zabz,↓Zaai,↓Zaby,↓Zacv,↓Zacu,↓Zada,↓Zaau,↓Zaam,↓Zaal,↓bxOp_build,↓Zaao,↓Zaat,↓Zaaw,↓Zaan,↓Zaay,↓Zacx,↓bxPut,↓Zabs,↓Zabt,↓Zabq,↓Zacy,↓Zacz,↓Zadb,↓Zabg,↓Zabe,↓Zabf,Zacw,Zaae,Zabi,Zacb,Zacs,Zabn,List.map_cons,List.map_nil,List.nil_append,List.append_nil,↓reduceIte,Nat.reduceEqDiff,Nat.reduceLT,dec_F,not_true_eq_false,Option.map_some, *,argF,List.getD_cons_zero,List.getD_cons_succ,ldTt,Zabn])
  · have hp:PostQ H e (IsJ ls ch fr to at' 10000 js) (.tuple ⟨[.bool false,.int .i64 e]⟩) H2:=⟨false,rfl,hK2,fun _ => rfl,fun h => absurd h h0⟩
    clear hK2 k1 k2 hl hj he
    repeat' (first | simp only [↓Zaca,↓Zabx,↓Zabz,↓Zaai,↓Zaby,↓Zacv,↓Zacu,↓Zada,↓Zaau,↓Zaam,↓Zaal,↓bxOp_build,↓Zaao,↓Zaat,↓Zaaw,↓Zaan,↓Zaay,↓Zacx,↓bxPut,↓Zabs,↓Zabt,↓Zabq,↓Zacy,↓Zacz,↓Zadb,↓Zabg,↓Zabe,↓Zabf,Zacw,Zaae,Zabi,Zacb,Zact,Zabn,List.map_cons,List.map_nil,List.nil_append,List.append_nil,↓reduceIte,Nat.reduceEqDiff,Nat.reduceLT,dec_T,not_false_eq_true, *,argF,List.getD_cons_zero,List.getD_cons_succ,Zabn])
end Go.Proofs.Ythkdnlegolphkaa

namespace Go.Proofs.Ythkdnlegolphkaa
open Go Go.AM
set_option maxRecDepth 10000

variable {S:AM.Sys} (hS:Only S 10)
include hS

theorem few_runs (a:Option Addr) (n c:Nat) (H:Heap):Runs Try.prog S (.fn 9) [.slice a n c] H (.bool (decide ((n:Int) ≤ 80))) H:=by
  suffices h:WCall Try.prog S (.fn 9) [.slice a n c] H (fun v H' => v = .bool (decide ((n:Int) ≤ 80)) ∧ H' = H) by
    obtain ⟨_,_,hr,rfl,rfl⟩:=h; exact hr
  refine Zaba Try.func9 rfl (Nat.le_of_ble_eq_true rfl) (hS.no rfl _ _) ?_
  rw [Try.ntmps9,Try.results9]
  repeat' (first | simp only [↓Zabx,↓Zabz,↓Zaby,↓Zacv,↓Zacu,↓Zada,↓Zaau,↓Zaam,↓Zaan,↓Zaas,↓bxPut,↓Zabs,↓Zabq,↓Zacy,↓Zacz,↓Zadb,↓Zabg,↓Zabe,Zacw,Zaae,Zabi,Zabm,↓reduceIte,Nat.reduceEqDiff,Nat.reduceLT,and_self, *,argF,List.getD_cons_zero,lenG])

end Go.Proofs.Ythkdnlegolphkaa

namespace Go.Proofs.Ythkdnlegolphkaa
open Go Go.AM
set_option maxRecDepth 10000

variable {ls:List Lg} {ch:Int}
theorem allOk_cons {x:Int} {xs:List Int} (hx:xs ≠ []):AllOk ls ch (x :: xs) (x :: xs).length ↔ (0 ≤ x ∧ x ≤ (ls.length:Int) - 1) ∧ joinB ch (ls.getD x.toNat default) (ls.getD (xs.getD 0 0).toNat default) = true ∧ AllOk ls ch xs xs.length:=by
  have hp:0 < xs.length:=List.length_pos_iff.2 hx;constructor
  · intro h;refine ⟨(h 0 (by simp)).1,(h 1 (by simp; omega)).2 (by decide),fun k hk => ?_⟩
    have h1:=h (k + 1) (by simp; omega)
    refine ⟨h1.1,fun h0 => ?_⟩
    have h2:=h1.2 (Nat.succ_pos k);obtain ⟨m,rfl⟩:∃ m,k = m + 1:=⟨k - 1,by omega⟩
    exact h2
  · rintro ⟨h1,h2,h3⟩ k hk;cases k with
    | zero => exact ⟨h1,fun h => absurd h (Nat.lt_irrefl 0)⟩
    | succ k =>
      have h4:=h3 k (by simpa using hk)
      refine ⟨h4.1,fun _ => ?_⟩
      cases k with
      | zero => exact h2
      | succ k => exact h4.2 (Nat.succ_pos k)
theorem allOk_iff:∀ {js:List Int},js ≠ [] → (AllOk ls ch js js.length ↔ ∃ i r,js = castL (i :: r) ∧ Ch ls ch i r)
  | [],h => absurd rfl h
  | [x],_ => by
    constructor
    · intro h;have h1:=(h 0 (by simp)).1
      have h1:0 ≤ x ∧ x ≤ (ls.length:Int) - 1:=h1;refine ⟨x.toNat,[],?_,?_⟩
      · show [x] = [((x.toNat:Nat):Int)];rw [Int.toNat_of_nonneg h1.1]
      · show x.toNat < ls.length;omega
    · rintro ⟨i,r,h1,h2⟩ k hk;have hk0:k = 0:=by simp at hk; omega
      subst hk0;have hr:r = []:=by
        have:=congrArg List.length h1;simp [castL] at this;exact this
      subst hr;have hx:x = (i:Int):=by simpa [castL] using h1
      subst hx;have h3:i < ls.length:=h2;exact ⟨⟨by show (0:Int) ≤ i; omega,by show (i:Int) ≤ _; omega⟩,fun h => absurd h (Nat.lt_irrefl 0)⟩
  | x :: y :: ys,_ => by
    rw [allOk_cons (by simp),allOk_iff (js:=y :: ys) (by simp)]
    constructor
    · rintro ⟨h1,h2,j,r,h3,h4⟩;have hy:y = (j:Int):=by have:=congrArg List.head? h3; simpa [castL] using this
      refine ⟨x.toNat,j :: r,?_,by omega,?_,h4⟩
      · rw [h3];show x :: castL (j :: r) = ((x.toNat:Nat):Int) :: castL (j :: r);rw [Int.toNat_of_nonneg h1.1]
      · have h5:joinB ch (ls.getD x.toNat default) (ls.getD y.toNat default) = true:=h2;rw [hy,Int.toNat_natCast] at h5;exact h5
    · rintro ⟨i,r,h1,h2⟩;cases r with
      | nil => have:=congrArg List.length h1; simp [castL] at this
      | cons j r =>
        have hx:x = (i:Int):=by have:=congrArg List.head? h1; simpa [castL] using this
        have ht:y :: ys = castL (j :: r):=by have:=congrArg List.tail h1; simpa [castL] using this
        have hy:y = (j:Int):=by have:=congrArg List.head? ht; simpa [castL] using this
        have hi:=h2.1;refine ⟨by omega,?_,j,r,ht,h2.2.2⟩
        show joinB ch (ls.getD x.toNat default) (ls.getD y.toNat default) = true;rw [hx,hy,Int.toNat_natCast,Int.toNat_natCast];exact h2.2.1
theorem castL_last:∀ {r:List Nat} {i:Nat},(castL (i :: r)).getD r.length 0 = (lastN i r:Int)
  | [],i => rfl
  | j :: r,i => castL_last (r:=r) (i:=j)
theorem isJ_true {fr to at':Int} {i:Nat} {r:List Nat} {b:Bool} (h:IsJ ls ch fr to at' 10000 (castL (i :: r)) b) (hk:LOk ls ch) (hc:Ch ls ch i r) (hB:BegB fr at' (ls.getD i default)) (ht:(ls.getD (lastN i r) default).t = to):b = true:=by
  have hl:(castL (i :: r)).length = r.length + 1:=by simp [castL]
  have h1:=h.2 (by omega)
  rw [h1];refine ⟨(allOk_iff (by simp [castL])).2 ⟨i,r,rfl,hc⟩,hB,?_⟩
  rw [hl,Nat.add_sub_cancel,castL_last,Int.toNat_natCast];exact ⟨ht,(hk.leg _ hc.last_lt).2.2⟩
theorem JL.sl {L:Nat} {H:Heap} {v:Value} {x:List Nat} (h:JL L H v x) (hx:x.length ≤ 100000) (hr:∀ i ∈ x,i ≤ 1000):∃ r,SlI .i64 H v (castL x) r 0:=by
  have m1:IntKind.i64.min = -9223372036854775808:=by decide
  have m2:IntKind.i64.max = 9223372036854775807:=by decide
  have hmx:Go.maxLen = 9223372036854775807:=rfl;rcases h with ⟨i,r,rfl,hi,rfl,_,ho⟩ | ⟨_,hl⟩
  · exact ⟨r,Own.sl (w:=castL [i]) ho (fun z hz => by
      have:z = (i:Int):=by simpa [castL] using hz
      rw [this,m1,m2]; omega) (by show 1 ≤ Go.maxLen; omega) 1⟩
  · obtain ⟨r,h1,_⟩:=hl.sl (by rw [castL_len]; omega)
    exact ⟨r,h1⟩
theorem Ch.mem_lt:∀ {r:List Nat} {i:Nat},Ch ls ch i r → ∀ j ∈ i :: r,j < ls.length
  | [],i,h,j,hj => by rw [List.mem_singleton.1 hj]; exact h
  | k :: r,i,h,j,hj => by
    rcases List.mem_cons.1 hj with e | hj
    · rw [e]; exact h.1
    · exact Ch.mem_lt h.2.2 j hj
end Go.Proofs.Ythkdnlegolphkaa

namespace Go.Proofs.Ythkdnlegolphkaa
open Go Go.AM

theorem chg_le (ls:List Lg):∀ (r:List Nat) (i:Nat),chg ls i r ≤ r.length
  | [],i => Nat.le_refl _
  | j :: r,i => by
    have h1:=chg_le ls r j;have h2:=chg1_le ls i j;simp only [chg,List.length_cons]; omega
variable {ls:List Lg} {ch fr to at':Int} {l:List Pt}
theorem TripsJ.cov (h:TripsJ ls ch fr to at' l) (hk:LOk ls ch) (h60:ls.length ≤ 60) {i:Nat} {r:List Nat} (hc:Ch ls ch i r) (hb:BegB fr at' (ls.getD i default)) (he:(ls.getD (lastN i r) default).t = to):∃ p ∈ l,p.1 ≤ (chg ls i r:Nat) ∧ p.2 ≤ (ls.getD (lastN i r) default).a:=by
  obtain ⟨d,ar,least,h1,h2,h3,_,_⟩:=h;have hj:=hc.last_lt;obtain ⟨k1,k2⟩:=h1 _ hj;have k3:=k1.1 _ ⟨i,r,hc,hb,rfl,rfl⟩;have k4:=chg_le ls r i;have k5:=hc.len hk;have k6:=hk.leg _ hj;have k7:0 ≤ d.getD (lastN i r) 0 ∧ d.getD (lastN i r) 0 < ls.length:=by omega
  have hx:(((d.getD (lastN i r) 0).toNat:Nat):Int) = d.getD (lastN i r) 0:=by omega
  obtain ⟨m1,_⟩:=h2 (d.getD (lastN i r) 0).toNat (by omega)
  have m2:=m1 (ls.getD (lastN i r) default).a ⟨lastN i r,hj,hx.symm,by omega,⟨he,k6.2.2⟩,rfl⟩
  obtain ⟨p,p1,p2,p3⟩:=h3.all (d.getD (lastN i r) 0).toNat (by omega) (by omega)
  exact ⟨p,p1,by omega,by omega⟩
theorem TripsJ.src (h:TripsJ ls ch fr to at' l) {p:Pt} (hp:p ∈ l):0 ≤ p.1 ∧ ∃ i r,Ch ls ch i r ∧ BegB fr at' (ls.getD i default) ∧ (ls.getD (lastN i r) default).t = to ∧ (ls.getD (lastN i r) default).a = p.2:=by
  obtain ⟨d,ar,least,h1,h2,h3,_,_⟩:=h;obtain ⟨x,k1,k2,k3,_⟩:=h3.mem p hp;rw [k2];refine ⟨by show (0:Int) ≤ ((x:Nat):Int); omega,?_⟩
  obtain ⟨_,m2⟩:=h2 x k1;rcases m2 with m2 | ⟨j,q1,q2,q3,q4,q5⟩
  · omega
  · obtain ⟨⟨_,w⟩,_⟩:=h1 j q1;rcases w with w | ⟨i,r,w1,w2,w3,w4⟩
    · omega
    · exact ⟨i,r,w1,w2,by rw [w3]; exact q4.1,by rw [w3]; exact q5⟩
theorem TripsJ.last (h:TripsJ ls ch fr to at' l) (hk:LOk ls ch) (h60:ls.length ≤ 60) {x:Int} {i:Nat} {r:List Nat} (hc:Ch ls ch i r) (hb:BegB fr at' (ls.getD i default)) (he:(ls.getD (lastN i r) default).t = to) (ha:(ls.getD (lastN i r) default).a = x)
    (hm:∀ i r,Ch ls ch i r → BegB fr at' (ls.getD i default) → (ls.getD (lastN i r) default).t = to → x ≤ (ls.getD (lastN i r) default).a):0 < l.length ∧ (l.getD (l.length - 1) default).2 = x ∧ (l.getD (l.length - 1) default).1 ≤ (chg ls i r:Nat):=by
  obtain ⟨p,p1,p2,p3⟩:=h.cov hk h60 hc hb he;have h0:0 < l.length:=List.length_pos_of_mem p1;obtain ⟨_,i2,r2,w1,w2,w3,w4⟩:=h.src p1;have w5:=hm i2 r2 w1 w2 w3;have hpx:p.2 = x:=by omega
  have hq:=getD_mem (l:=l) (k:=l.length - 1) (d:=default) (by omega)
  obtain ⟨_,i3,r3,v1,v2,v3,v4⟩:=h.src hq;have v5:=hm i3 r3 v1 v2 v3;obtain ⟨k,hkl,hke⟩:=List.getElem_of_mem p1;have hlast:l.getD (l.length - 1) default = p:=by
    rcases Nat.lt_or_ge k (l.length - 1) with hlt | hge
    · obtain ⟨_,_,_,_,_,h3,_⟩:=h;have h4:=List.pairwise_iff_getElem.1 h3.asc k (l.length - 1) hkl (by omega) hlt
      rw [hke] at h4;have h5:l.getD (l.length - 1) default = l[l.length - 1]:=by rw [List.getD_eq_getElem?_getD,List.getElem?_eq_getElem (by omega)]; rfl
      rw [← h5] at h4;omega
    · have:k = l.length - 1:=by omega
      subst this;rw [List.getD_eq_getElem?_getD,List.getElem?_eq_getElem hkl]; exact hke
  rw [hlast];exact ⟨h0,hpx,p2⟩
theorem TripsJ.asc (h:TripsJ ls ch fr to at' l) {k:Nat} (hk:k + 1 < l.length):(l.getD k default).1 < (l.getD (k + 1) default).1 ∧ (l.getD (k + 1) default).2 < (l.getD k default).2:=by
  obtain ⟨_,_,_,_,_,h3,_⟩:=h;have h4:=List.pairwise_iff_getElem.1 h3.asc k (k + 1) (by omega) hk (by omega)
  rw [List.getD_eq_getElem?_getD,List.getD_eq_getElem?_getD,List.getElem?_eq_getElem hk,List.getElem?_eq_getElem (by omega)]
  exact h4
theorem faTr0 (r o:Nat):aFieldAt Try.prog 50 0 (.pointer (some ⟨r,o,none⟩)) = some (.pointer (some ⟨r,o + 0,none⟩)):=by kernel_rfl
theorem faTr1 (r o:Nat):aFieldAt Try.prog 50 1 (.pointer (some ⟨r,o,none⟩)) = some (.pointer (some ⟨r,o + 1,none⟩)):=by kernel_rfl
theorem trip_at {H:Heap} {w:List Pt} {r o:Nat} {a:Option Addr} {cap:Nat} (h:SlE stE H (.slice a w.length cap) w r o) {k:Nat} (h1:k < w.length) :
    ∃ q,Zaaa Try.prog 46 (.slice a w.length cap) (.int .i64 (k:Int)) = some (.pointer (some ⟨r,q,none⟩)) ∧ H.read r q 2 = some (pc (w.getD k default)) ∧
      H.read r q 1 = some [.int .i64 (w.getD k default).1] ∧ H.read r (q + 1) 1 = some [.int .i64 (w.getD k default).2] ∧ R64 (w.getD k default).1 ∧ R64 (w.getD k default).2:=by
  obtain ⟨a',cap',e,ha⟩:=h.isv;cases e;obtain ⟨es,h2,h3⟩:=h.rd k h1;obtain ⟨rfl,h4,h5⟩:=stE_inv h3;have h2:H.read r (o + k * 2) 2 = some (pc (w.getD k default)):=h2;have hs:=fun j (hj:j + 1 ≤ 2) => read_sub h2 hj
  have hx:Zaaa Try.prog 46 (.slice (some ⟨r,o,none⟩) w.length cap) (.int .i64 (k:Int)) = if 0 ≤ (k:Int) ∧ (k:Int) < ((w.length:Nat):Int) then some (.pointer (some ⟨r,o + ((k:Int)).toNat * 2,none⟩)) else none:=by kernel_rfl
  refine ⟨o + k * 2,by rw [ha (by omega),hx,if_pos ⟨by omega,by omega⟩,Int.toNat_natCast],h2,?_,hs 1 (by omega),h4,h5⟩
  exact hs 0 (by omega)
def chgs (ls:List Lg):List Nat → Nat
  | [] => 0
  | i :: r => chg ls i r
theorem both {x e2:Int} {js:List Nat} (hk:LOk ls ch) (h60:ls.length ≤ 60) (ht:TripsJ ls ch fr to at' l) (hE:EarlJ ls ch fr to at' x e2 js) (hne:e2 ≠ 10) :
    e2 = 0 ∧ 0 < l.length ∧ (l.getD (l.length - 1) default).2 = x ∧ 0 ≤ (l.getD 0 default).1 ∧ (l.getD (l.length - 1) default).1 ≤ (chgs ls js:Nat) ∧ ∃ i r,js = i :: r ∧ Ch ls ch i r ∧ BegB fr at' (ls.getD i default) ∧ (ls.getD (lastN i r) default).t = to:=by
  rcases hE with ⟨h,_⟩ | ⟨h1,i,r,rfl,hs,ha,hm⟩
  · exact absurd h hne
  · obtain ⟨h2,h3,h4⟩:=ht.last hk h60 hs.is hs.beg hs.fin.1 ha hm;exact ⟨h1,h2,h3,(ht.src (getD_mem (d:=default) h2)).1,h4,i,r,rfl,hs.is,hs.beg,hs.fin.1⟩
end Go.Proofs.Ythkdnlegolphkaa
