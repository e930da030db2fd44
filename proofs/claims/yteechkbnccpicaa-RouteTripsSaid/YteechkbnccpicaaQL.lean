/- The best trips, by the program: the earliest arrival of each number of changes. -/
import Derived.Test.YteechkbnccpicaaQK
import Derived.Test.YteechkbnccpicaaL4
set_option linter.unusedVariables false
set_option linter.unusedSimpArgs false
set_option linter.unusedSectionVars false

namespace Go.Proofs.Yteechkbnccpicaa
open Go Go.AM
set_option maxRecDepth 10000

def PK (ls:List Lg) (E:Lg → Prop) (d:List Int) (k:Nat) (x y:Int):Prop:=∃ j,j < k ∧ d.getD j 0 = x ∧ x < 10060 ∧ E (ls.getD j default) ∧ (ls.getD j default).a = y
def ArrOk (ls:List Lg) (E:Lg → Prop) (d:List Int) (k:Nat) (ar:List Int):Prop:=∀ x:Nat,x < 60 → (∀ y,PK ls E d k x y → ar.getD x 0 ≤ y) ∧ (ar.getD x 0 = 10060 ∨ PK ls E d k x (ar.getD x 0))
theorem PK.succ {ls:List Lg} {E:Lg → Prop} {d:List Int} {k:Nat} {x y:Int}:PK ls E d (k + 1) x y ↔ PK ls E d k x y ∨ (d.getD k 0 = x ∧ x < 10060 ∧ E (ls.getD k default) ∧ (ls.getD k default).a = y):=by
  constructor
  · rintro ⟨j,h1,h2⟩;rcases Nat.lt_or_ge j k with h | h
    · exact .inl ⟨j,h,h2⟩
    · obtain rfl:j = k:=by omega
      exact .inr h2
  · rintro (⟨j,h1,h2⟩ | h)
    · exact ⟨j,by omega,h2⟩
    · exact ⟨k,by omega,h⟩
theorem ArrOk.no {ls:List Lg} {E:Lg → Prop} {d:List Int} {k:Nat} {ar:List Int} (h:ArrOk ls E d k ar) (hn:¬ (d.getD k 0 < 10060 ∧ E (ls.getD k default))):ArrOk ls E d (k + 1) ar:=fun x hx => by
  obtain ⟨h1,h2⟩:=h x hx;refine ⟨fun y hy => ?_,h2.imp id fun h => PK.succ.2 (.inl h)⟩
  rcases PK.succ.1 hy with h | ⟨k1,k2,k3,_⟩
  · exact h1 y h
  · exact absurd ⟨by omega,k3⟩ hn
theorem ArrOk.yes {ls:List Lg} {E:Lg → Prop} {d:List Int} {k:Nat} {ar:List Int} (h:ArrOk ls E d k ar) {c0:Nat} (hc:d.getD k 0 = (c0:Int)) (h60:c0 < 60) (hl:ar.length = 60) (hE:E (ls.getD k default)) {z:Int} (hz:z = min (ar.getD c0 0) (ls.getD k default).a):ArrOk ls E d (k + 1) (ar.set c0 z):=fun x hx => by
  obtain ⟨h1,h2⟩:=h x hx
  by_cases hxc:x = c0
  · subst hxc;rw [set_same (by omega)]
    refine ⟨fun y hy => ?_,?_⟩
    · rcases PK.succ.1 hy with h | ⟨_,_,_,k4⟩
      · have:=h1 y h; omega
      · omega
    · rcases Int.le_total (ar.getD x 0) (ls.getD k default).a with hle | hle
      · rw [hz,Int.min_eq_left hle];exact h2.imp id fun h => PK.succ.2 (.inl h)
      · rw [hz,Int.min_eq_right hle];exact .inr (PK.succ.2 (.inr ⟨hc,by omega,hE,rfl⟩))
  · rw [set_other hxc];refine ⟨fun y hy => ?_,h2.imp id fun h => PK.succ.2 (.inl h)⟩
    rcases PK.succ.1 hy with h | ⟨k1,_⟩
    · exact h1 y h
    · omega
structure TrOk (ar:List Int) (x0:Nat) (least:Int) (l:List (Int × Int)):Prop where
  asc:l.Pairwise fun p q => p.1 < q.1 ∧ q.2 < p.2
  mem:∀ p ∈ l,∃ x:Nat,x < x0 ∧ p = ((x:Int),ar.getD x 0) ∧ ar.getD x 0 < 10060 ∧ least ≤ p.2
  all:∀ x,x < x0 → ar.getD x 0 < 10060 → ∃ p ∈ l,p.1 ≤ (x:Int) ∧ p.2 ≤ ar.getD x 0
  low:∀ x,x < x0 → least ≤ ar.getD x 0
  le:least ≤ 10060
theorem TrOk.nil {ar:List Int}:TrOk ar 0 10060 []:=⟨.nil,(fun p hp => by cases hp),fun x hx => absurd hx (Nat.not_lt_zero x),fun x hx => absurd hx (Nat.not_lt_zero x),Int.le_refl _⟩
theorem TrOk.no {ar:List Int} {x0:Nat} {least:Int} {l:List (Int × Int)} (h:TrOk ar x0 least l) (hm:least = 10060 ∨ ∃ p ∈ l,p.2 = least) (hn:¬ ar.getD x0 0 < least):TrOk ar (x0 + 1) least l:=by
  refine ⟨h.asc,fun p hp => ?_,fun x hx h1 => ?_,fun x hx => ?_,h.le⟩
  · obtain ⟨x,h1,h2⟩:=h.mem p hp;exact ⟨x,by omega,h2⟩
  · rcases Nat.lt_or_ge x x0 with h2 | h2
    · exact h.all x h2 h1
    · obtain rfl:x = x0:=by omega
      rcases hm with hm | ⟨p,hp,hm⟩
      · omega
      · obtain ⟨x',k1,k2,_⟩:=h.mem p hp;refine ⟨p,hp,?_,by omega⟩
        rw [k2]; show ((x':Nat):Int) ≤ _; omega
  · rcases Nat.lt_or_ge x x0 with h2 | h2
    · exact h.low x h2
    · obtain rfl:x = x0:=by omega
      omega
theorem TrOk.yes {ar:List Int} {x0:Nat} {least:Int} {l:List (Int × Int)} (h:TrOk ar x0 least l) (hn:ar.getD x0 0 < least):TrOk ar (x0 + 1) (ar.getD x0 0) (l ++ [((x0:Int),ar.getD x0 0)]):=by
  have hle:=h.le;refine ⟨List.pairwise_append.2 ⟨h.asc,List.pairwise_singleton _ _,fun p hp q hq => ?_⟩,fun p hp => ?_,fun x hx h1 => ?_,fun x hx => ?_,by omega⟩
  · obtain ⟨x,h1,h2,_,h3⟩:=h.mem p hp;cases List.mem_singleton.1 hq;refine ⟨?_,by show ar.getD x0 0 < p.2; omega⟩
    rw [h2]; show ((x:Nat):Int) < _; omega
  · rcases List.mem_append.1 hp with hp | hp
    · obtain ⟨x,h1,h2,h3,h4⟩:=h.mem p hp;exact ⟨x,by omega,h2,h3,by omega⟩
    · cases List.mem_singleton.1 hp;exact ⟨x0,by omega,rfl,by omega,Int.le_refl _⟩
  · rcases Nat.lt_or_ge x x0 with h2 | h2
    · obtain ⟨p,h3,h4⟩:=h.all x h2 h1;exact ⟨p,List.mem_append.2 (.inl h3),h4⟩
    · obtain rfl:x = x0:=by omega
      exact ⟨_,List.mem_append.2 (.inr (List.mem_singleton.2 rfl)),Int.le_refl _,Int.le_refl _⟩
  · rcases Nat.lt_or_ge x x0 with h2 | h2
    · have:=h.low x h2; omega
    · obtain rfl:x = x0:=by omega
      exact Int.le_refl _
structure CT (H X:Heap) (b1 b2 lr l2:Nat) (c1 c2:List Value) (d2 d:List Int):Prop where
  keep:Keep H X
  o1:Own X b1 64 c1
  o2:Own X b2 72 c2
  o4:Own X l2 3 (d2.map fun z => .int .i64 z)
  o3:Own X lr 3 (d.map fun z => .int .i64 z)
variable {H X Y:Heap} {b1 b2 lr l2:Nat} {c1 c2:List Value} {d2 d:List Int}
theorem CT.more (h:CT H X b1 b2 lr l2 c1 c2 d2 d) (hk:Keep X Y):CT H Y b1 b2 lr l2 c1 c2 d2 d:=⟨h.keep.trans hk,h.o1.keep hk,h.o2.keep hk,h.o4.keep hk,h.o3.keep hk⟩
theorem CT.setD (h:CT H X b1 b2 lr l2 c1 c2 d2 d) (hL:H.low ≤ H.size) (n1:b1 ≠ lr) (n2:b2 ≠ lr) (n4:l2 ≠ lr) (hr:H.size ≤ lr) {k:Nat} (hk:k < d.length) (z:Int) :
    ∃ Ya Y,aStore Try.prog (X.relow X.size) 3 (.pointer (some ⟨lr,k,none⟩)) (.int .i64 z) = some Ya ∧ Ya.relow (Nat.min X.low Ya.low) = Y ∧ CT H Y b1 b2 lr l2 c1 c2 d2 (d.set k z) ∧ Y.low ≤ Y.size:=by
  obtain ⟨i,hi,hsz⟩:=infoI;obtain ⟨Ya,e1,e2,e3,e4,e5⟩:=(h.o3.addr (l:=X.size)).store (t:=3) hi (v:=.int .i64 z) (new:=[.int .i64 z]) rfl (by rw [hsz]; rfl) rfl (o:=k) (by simp; omega)
  rw [splice_map hk] at e2;have kk:=Keep.lower h.keep (e5 H (h.keep.trans (Keep.relowS _)) hr);exact ⟨Ya,_,e1,rfl,⟨kk,(e4 _ _ _ n1 h.o1.addr).addr,(e4 _ _ _ n2 h.o2.addr).addr,(e4 _ _ _ n4 h.o4.addr).addr,e2.addr⟩,kk.low hL⟩
theorem CT.rd (h:CT H X b1 b2 lr l2 c1 c2 d2 d) {k:Nat} (hk:k < d.length):X.read lr k 1 = some [.int .i64 (d.getD k 0)]:=by
  rw [h.o3.read (o:=k) (n:=1) (by simp; omega),← List.map_drop,← List.map_take,List.drop_eq_getElem_cons hk,List.getD_eq_getElem?_getD,List.getElem?_eq_getElem hk]
  rfl
theorem CT.rd2 (h:CT H X b1 b2 lr l2 c1 c2 d2 d) {k:Nat} (hk:k < d2.length):X.read l2 k 1 = some [.int .i64 (d2.getD k 0)]:=by
  rw [h.o4.read (o:=k) (n:=1) (by simp; omega),← List.map_drop,← List.map_take,List.drop_eq_getElem_cons hk,List.getD_eq_getElem?_getD,List.getElem?_eq_getElem hk]
  rfl
theorem elemOkT:ElemOk Try.prog #[46,46] 50 stE.sz:=⟨⟨46,46,_,Try.t50,.agg ⟨[.int .i64 0,.int .i64 0]⟩,rfl,rfl,Try.underlying46,Try.underlying46,rfl,by kernel_rfl,by kernel_rfl,by kernel_rfl,by kernel_rfl,of_decide_eq_true (by kernel_rfl)⟩,by show 0 < 2; decide⟩
theorem bs1T (H:Heap) (x y:Int):aBuildSlice Try.prog H 46 1 [(0,.agg ⟨[.int .i64 x,.int .i64 y]⟩)] = some (.slice (some ⟨H.size,0,none⟩) 1 1,H.newExact [.int .i64 x,.int .i64 y] 50):=by kernel_rfl
theorem bdTr (x y:Int):aBuild Try.prog 50 [(0,.int .i64 x),(1,.int .i64 y)] = some (.agg ⟨[.int .i64 x,.int .i64 y]⟩):=by kernel_rfl

variable {S:AM.Sys} (hS:Only S 11)
include hS

def PostTr (ls:List Lg) (ch fr at':Int) (E:Lg → Prop) (H:Heap) (u:Value) (H':Heap):Prop:=
  ∃ (d ar:List Int) (l:List (Int × Int)) (least:Int),(∀ j,j < ls.length → CW ls ch (BegB fr at') j (d.getD j 0) ∧ (d.getD j 0 = 10060 ∨ (0 ≤ d.getD j 0 ∧ d.getD j 0 < ls.length))) ∧ ArrOk ls E d ls.length ar ∧ TrOk ar 60 least l ∧ (least = 10060 ∨ ∃ p ∈ l,p.2 = least) ∧ (∀ x,x < 60 → 0 ≤ ar.getD x 0 ∧ ar.getD x 0 ≤ 10060) ∧ Keep H H' ∧ Grp H' ∧ l.length ≤ 60 ∧ ∃ L,H.size ≤ L ∧ L ≤ H'.size ∧ LstG stE 50 L H' u l
set_option maxHeartbeats 8000000 in
theorem trips_runs {ls:List Lg} {a:Option Addr} {c r o:Nat} {ch:Int} {ro:Nat} {R:Array Int} {H:Heap} (tt:TT ls a c r o ch ro R H) (fr to at' by':Int) (hL:H.low ≤ H.size) (hg:Grp H) :
    ∃ u H',Runs Try.prog S (.fn 49) [tvo ls a c ch ro,wv fr to at' by'] H u H' ∧ PostTr ls ch fr at' (EndsB to by') H u H':=by
  suffices h:WCall Try.prog S (.fn 49) [tvo ls a c ch ro,wv fr to at' by'] H (fun u H' => PostTr ls ch fr at' (EndsB to by') H u H') by
    obtain ⟨u,H',hr,h⟩:=h; exact ⟨u,H',hr,h⟩
  obtain ⟨H1,e1,hK1,t3,t0,t1,t2⟩:=boxT H a ls.length c ch (.slice (some ⟨ro,0,none⟩) ls.length ls.length);have o1:Own H1 H.size 64 [.slice a ls.length c,.int .i64 ch,.slice (some ⟨ro,0,none⟩) ls.length ls.length]:=by rw [← e1]; exact Own.new _ _ _
  have z1:H1.size = H.size + 1:=by rw [← e1,size_new]
  obtain ⟨H2,e2,hK2,w4,w0,w1,w2,w3⟩:=boxW H1 fr to at' by'
  have o2:Own H2 H1.size 72 [.int .i64 fr,.int .i64 to,.int .i64 at',.int .i64 by']:=by rw [← e2]; exact Own.new _ _ _
  have z2:H2.size = H1.size + 1:=by rw [← e2,size_new]
  have h60:=tt.few;obtain ⟨H3,e3⟩:∃ H3,H2.newExact [.int .i64 10060] 3 = H3:=⟨_,rfl⟩;have hK3:Keep H2 H3:=by rw [← e3]; exact Keep.newExact _ _ _
  have o3:Own H3 H2.size 3 [.int .i64 10060]:=by rw [← e3]; exact Own.new _ _ _
  have bs3:aBuildSlice Try.prog H2 25 1 [(0,.int .i64 10060)] = some (.slice (some ⟨H2.size,0,none⟩) 1 1,H3):=by rw [← e3]; kernel_rfl
  have z3:H3.size = H2.size + 1:=by rw [← e3,size_new]
  have K3:=(hK1.trans hK2).trans hK3;obtain ⟨H4,R4,hK4,o4⟩:=rep_runs hS 10060 60 H2.size H3 (by omega) (K3.grp hg) (K3.low hL) o3
  have f4:∀ (K:Value → Heap → Prop) (bl:Blk K),sxCallB Try.prog S (.fn 75) [.slice (some ⟨H2.size,0,none⟩) 1 1,.int .i64 60] H3 K bl = K (.slice (some ⟨H3.size,0,none⟩) 60 60) H4:=R4.bx;have K4:=K3.trans hK4;obtain ⟨u5,H5,R5,l2,d2,rfl,hK5,o5,hl2,hd2,hcw⟩:=changes_runs hS (tt.keep K4) fr to at' by' (K4.low hL) (K4.grp hg)
  have f5:=R5.bx;have ct:CT H H5 H.size H1.size H3.size l2 [.slice a ls.length c,.int .i64 ch,.slice (some ⟨ro,0,none⟩) ls.length ls.length] [.int .i64 fr,.int .i64 to,.int .i64 at',.int .i64 by'] d2 (List.replicate 60 10060):=
    ⟨K4.trans hK5,(((o1.keep hK2).keep hK3).keep hK4).keep hK5,((o2.keep hK3).keep hK4).keep hK5,o5,o4.keep hK5⟩
  have n1:H.size ≠ H3.size:=by omega
  have n2:H1.size ≠ H3.size:=by omega
  have n3:H.size ≤ H3.size:=by omega
  have n4:l2 ≠ H3.size:=by have:=o4.lt; omega
  have u0:H4.read H.size 0 3 = some [.slice a ls.length c,.int .i64 ch,.slice (some ⟨ro,0,none⟩) ls.length ls.length]:=(((o1.keep hK2).keep hK3).keep hK4).read (o:=0) (n:=3) (by simp)
  have u2:H4.read H1.size 0 4 = some [.int .i64 fr,.int .i64 to,.int .i64 at',.int .i64 by']:=((o2.keep hK3).keep hK4).read (o:=0) (n:=4) (by simp)
  unfold tvo tv wv at f5;unfold tvo tv wv;refine Zabc Try.func49 rfl (Nat.le_of_ble_eq_true rfl) (hS.no rfl _ _) ?_
  rw [Try.ntmps49,Try.results49];clear e3 hK3 o3 z1 z2 z3 hK1 hK2 hK4 o1 o2 o4 o5 t0 t1 t2 t3 w0 w1 w2 w3 w4 R4 R5 K3 K4 hK5
  repeat' (first | simp only [↓Zabz,↓Zacb,↓Zaaj,↓Zabw,↓Zaca,↓Zacy,↓Zacx,↓Zadd,↓Zaaw,↓Zaan,↓bxOp_box,↓Zaaq,↓Zaav,↓Zaba,↓Zaau,↓bxPut,↓Zabu,↓Zabs,↓Zadb,↓Zadc,↓Zade,↓Zabi,↓Zabg,↓Zabh,Zacz,Zacd,Zabo,List.map_cons,List.map_nil,List.nil_append,List.append_nil,↓reduceIte,Nat.reduceEqDiff,Nat.reduceLT,Option.map_some, *,argF,List.getD_cons_zero,List.getD_cons_succ,Zabd,ldTt,ldW,lenIs])
  clear f4 f5 bs3 u0 u2 e1 e2
  refine sxL_of (fun m ρ X => ∃ (k:Nat) (ar:List Int),m = ls.length - k ∧ k ≤ ls.length ∧ CT H X H.size H1.size H3.size l2 [.slice a ls.length c,.int .i64 ch,.slice (some ⟨ro,0,none⟩) ls.length ls.length] [.int .i64 fr,.int .i64 to,.int .i64 at',.int .i64 by'] d2 ar ∧ ar.length = 60 ∧ ArrOk ls (EndsB to by') d2 k ar ∧
      ρ 2 = .pointer (some ⟨H.size,0,none⟩) ∧ ρ 3 = .pointer (some ⟨H1.size,0,none⟩) ∧ ρ 5 = .slice (some ⟨H3.size,0,none⟩) 60 60 ∧ ρ 16 = .slice (some ⟨l2,0,none⟩) ls.length ls.length ∧ ρ 17 = .int .i64 (ls.length:Int) ∧ ρ 18 = .int .i64 (k:Int))
    ⟨0,List.replicate 60 10060,rfl,Nat.zero_le _,ct,by simp,fun x hx => ⟨fun y ⟨j,h,_⟩ => absurd h (Nat.not_lt_zero j),.inl (by rw [List.getD_eq_getElem?_getD,List.getElem?_replicate,if_pos hx]; rfl)⟩,rfl,rfl,rfl,rfl,rfl,rfl⟩ ?_
  clear ct;rintro m ρ X ⟨k,ar,rfl,hk,ct,har,hok,e2,e3,e5,e16,e17,e18⟩;have hLX:=ct.keep.low hL
  by_cases hlt:k < ls.length
  case neg =>
    have hlt':¬ (k:Int) < (ls.length:Int):=by omega
    have hkn:k = ls.length:=Nat.le_antisymm hk (Nat.not_lt.1 hlt);rw [hkn] at hok;have har0:∀ x,x < 60 → 0 ≤ ar.getD x 0 ∧ ar.getD x 0 ≤ 10060:=fun x hx => by
      rcases (hok x hx).2 with h | ⟨j,h1,_,_,_,h2⟩
      · omega
      · have:=tt.leg.leg j h1;omega
    have hgX:=ct.keep.grp hg;clear hkn hlt
    repeat' (first | simp only [↓Zacc,↓Zabx,↓Zabz,↓Zacb,↓Zaai,↓Zabw,↓Zaby,↓Zacy,↓Zacx,↓Zacq,↓Zaak,↓Zacl,↓Zacm,↓Zack,↓Zacg,↓Zaci,↓Zacj,↓Zadd,↓Zabb,↓Zaaw,↓Zaan,↓Zaax,↓Zaav,↓Zaay,↓Zaao,↓Zaas,↓Zaat,↓Zaba,↓bxOp_min,↓Zada,↓bxPut,↓Zabu,↓Zabt,↓Zaag,↓Zaaf,↓Zabm,↓Zabl,↓Zade,↓Zabi,↓Zabg,↓Zabh,↓dstAt,↓Zabj,Zacz,Zaae,Zabk,Zacd,Zacv,List.nil_append,↓reduceIte,Nat.reduceEqDiff,Nat.reduceLT,dec_F, *,lenIs] | (with_reducible first | refine Zacf (by assumption) (by decide +kernel) ?_ | refine Zace (by decide +kernel) ?_ | refine Zaco (by decide +kernel) ?_ | refine Zach ?_))
    refine sxL_of (fun m ρ V => ∃ (x0:Nat) (lv:Value) (l:List Pt) (least:Int),m = 60 - x0 ∧ x0 ≤ 60 ∧ Keep X V ∧ Grp V ∧ LstG stE 50 X.size V lv l ∧ l.length ≤ x0 ∧ TrOk ar x0 least l ∧ (least = 10060 ∨ ∃ p ∈ l,p.2 = least) ∧
        ρ 8 = lv ∧ ρ 9 = .int .i64 least ∧ ρ 49 = .slice (some ⟨H3.size,0,none⟩) 60 60 ∧ ρ 50 = .int .i64 60 ∧ ρ 51 = .int .i64 (x0:Int))
      ⟨0,.slice none 0 0,[],10060,rfl,Nat.zero_le _,Keep.refl _,hgX,LstG.nil,Nat.le_refl _,TrOk.nil,.inl rfl,rfl,rfl,rfl,rfl,rfl⟩ ?_
    clear e2 e3 e5 e16 e17 e18 hlt' ρ;rintro m ρ V ⟨x0,lv,l,least,rfl,hx0,kV,gV,hlst,hll,htr,hlm,e8,e9,e49,e50,e51⟩;have hLV:=kV.low hLX
    by_cases hltx:x0 < 60
    case neg =>
      have hltx':¬ (x0:Int) < 60:=by omega
      have hxe:x0 = 60:=Nat.le_antisymm hx0 (Nat.not_lt.1 hltx);rw [hxe] at htr;have hp:PostTr ls ch fr at' (EndsB to by') H lv V:=⟨d2,ar,l,least,hcw,hok,htr,hlm,har0,ct.keep.trans kV,gV,by omega,X.size,ct.keep.size,kV.size,hlst⟩
      clear hxe hltx htr hlm hlst hok hcw tt har0 ct kV
      repeat' (first | simp only [↓Zacc,↓Zabz,↓Zacb,↓Zaai,↓Zabw,↓Zaby,↓Zacy,↓Zacx,↓Zadd,↓Zaaw,↓Zaan,↓Zaap,↓Zaaq,↓Zaav,↓Zaao,↓Zaat,↓Zaam,↓bxPut,↓Zabu,↓Zabt,↓Zaag,↓Zaaf,↓Zabm,↓Zabl,↓Zade,↓Zabi,↓Zabg,Zacz,Zaae,Zabk,Zacv,↓reduceIte,Nat.reduceEqDiff,Nat.reduceLT,dec_F, *])
    have hltx':(x0:Int) < 60:=by omega
    have hwx:IntKind.i64.wrap ((x0:Int) + 1) = ((x0 + 1:Nat):Int):=IntWalk.i64_in _ (by omega)
    have hixa:Zaaa Try.prog 25 (.slice (some ⟨H3.size,0,none⟩) 60 60) (.int .i64 (x0:Int)) = some (.pointer (some ⟨H3.size,x0,none⟩)):=by
      rw [ixIs,if_pos ⟨by omega,by show (x0:Int) < ((60:Nat):Int); omega⟩,Int.toNat_natCast,Nat.mul_one,Nat.zero_add]
    have ra:=(ct.more kV).rd (k:=x0) (by omega)
    have hax:=har0 x0 hltx
    by_cases hc:ar.getD x0 0 < least
    · have htr2:=htr.yes hc;have hpu:=hlst.push (t:=50) elemOkT (stableS 0) gV kV.size (x:=((x0:Int),ar.getD x0 0)) (stE_at ⟨by show _ ≤ (x0:Int); omega,by show (x0:Int) ≤ _; omega⟩ ⟨by show _ ≤ ar.getD x0 0; omega,by show ar.getD x0 0 ≤ _; omega⟩) rfl (by omega)
      obtain ⟨v8,H8,ap8,hl8,gr8⟩:=hpu;have bs8:=bs1T V (x0:Int) (ar.getD x0 0);have bd8:=bdTr (x0:Int) (ar.getD x0 0);have kX8:=gr8.base X hgX kV (Nat.le_refl _);have g8:=gr8.grp gV;have hlm2:ar.getD x0 0 = 10060 ∨ ∃ p ∈ l ++ [((x0:Int),ar.getD x0 0)],p.2 = ar.getD x0 0:=.inr ⟨_,List.mem_append.2 (.inr (List.mem_singleton.2 rfl)),rfl⟩;have hll2:(l ++ [((x0:Int),ar.getD x0 0)]).length ≤ x0 + 1:=by rw [List.length_append]; show _ + 1 ≤ _; omega
      unfold pc at ap8;have hgy:∃ y,y = ar.getD x0 0:=⟨_,rfl⟩;obtain ⟨y,hy⟩:=hgy;rw [← hy] at ap8 bs8 bd8 htr2 hlm2 hll2 ra hc hl8;clear hok hcw tt har0 ct kV gr8 htr hlm hlst hax hy
      repeat' (first | simp only [↓Zacc,↓Zabz,↓Zacb,↓Zaai,↓Zabw,↓Zaby,↓Zacy,↓Zacx,↓Zadd,↓Zaaw,↓Zaan,↓Zaap,↓Zaaq,↓Zaav,↓Zaao,↓Zaat,↓Zaam,↓bxPut,↓Zabu,↓Zabt,↓Zaag,↓Zaaf,↓Zabm,↓Zabl,↓Zade,↓Zabi,↓Zabg,Zacz,Zaae,Zabk,Zacw,List.map_cons,List.map_nil,↓reduceIte,Nat.reduceEqDiff,Nat.reduceLT,dec_T,true_and,one1,Option.bind_some, *,ldC,one1])
      --F
      exact ⟨60 - (x0 + 1),by omega,x0 + 1,_,_,y,rfl,by omega,hl8,hll2,htr2,hlm2,rfl,rfl,rfl⟩
    · have htr2:=htr.no hlm hc;have hgy:∃ y,y = ar.getD x0 0:=⟨_,rfl⟩;obtain ⟨y,hy⟩:=hgy;rw [← hy] at ra hc;clear hok hcw tt har0 ct htr hax hy
      repeat' (first | simp only [↓Zacc,↓Zabz,↓Zacb,↓Zaai,↓Zabw,↓Zaby,↓Zacy,↓Zacx,↓Zadd,↓Zaaw,↓Zaan,↓Zaap,↓Zaaq,↓Zaav,↓Zaao,↓Zaat,↓Zaam,↓bxPut,↓Zabu,↓Zabt,↓Zaag,↓Zaaf,↓Zabm,↓Zabl,↓Zade,↓Zabi,↓Zabg,Zacz,Zaae,Zabk,Zacw,Zacv,↓reduceIte,Nat.reduceEqDiff,Nat.reduceLT,dec_T,dec_F,true_and,one1,Option.bind_some, *,ldC,one1])
      --G
      exact ⟨60 - (x0 + 1),by omega,x0 + 1,lv,l,least,rfl,by omega,hlst,by omega,htr2,hlm,rfl,rfl,rfl⟩
  have hlt':(k:Int) < (ls.length:Int):=by omega
  have hwk:IntKind.i64.wrap ((k:Int) + 1) = ((k + 1:Nat):Int):=IntWalk.i64_in _ (by omega)
  have hixd:Zaaa Try.prog 25 (.slice (some ⟨l2,0,none⟩) ls.length ls.length) (.int .i64 (k:Int)) = some (.pointer (some ⟨l2,k,none⟩)):=by
    rw [ixIs,if_pos ⟨by omega,hlt'⟩,Int.toNat_natCast,Nat.mul_one,Nat.zero_add]
  have rk:=ct.rd2 (k:=k) (by omega)
  have hck:=(hcw k hlt).2;have hgx:∃ x,x = d2.getD k 0:=⟨_,rfl⟩;obtain ⟨x,hx⟩:=hgx;rw [← hx] at rk hck
  by_cases hcnt:x < 10060
  case neg =>
    have hok2:=hok.no (fun h => hcnt (by rw [hx]; exact h.1))
    clear hok hcw hx hck tt
    repeat' (first | simp only [↓Zacc,↓Zabx,↓Zabz,↓Zacb,↓Zaai,↓Zabw,↓Zaby,↓Zacy,↓Zacx,↓Zacq,↓Zaak,↓Zacl,↓Zacm,↓Zack,↓Zacg,↓Zaci,↓Zacj,↓Zacp,↓Zadd,↓Zabb,↓Zaaw,↓Zaan,↓Zaax,↓Zaav,↓Zaay,↓Zaao,↓Zaas,↓Zaat,↓Zaba,↓bxOp_min,↓Zada,↓bxPut,↓Zabu,↓Zabt,↓Zaag,↓Zaaf,↓Zabm,↓Zabl,↓Zade,↓Zabi,↓Zabg,↓Zabh,↓dstAt,↓Zabj,Zacz,Zaae,Zabk,Zaac,Zacd,Zact,Zacw,Zacv,List.nil_append,↓reduceIte,Nat.reduceEqDiff,Nat.reduceLT,dec_T,dec_F,true_and,one1,Option.bind_some, *,ldC,one1] | (with_reducible first | refine Zacf (by assumption) (by decide +kernel) ?_ | refine Zace (by decide +kernel) ?_ | refine Zaco (by decide +kernel) ?_ | refine Zach ?_))
    --B
    exact ⟨ls.length - (k + 1),by omega,k + 1,ar,rfl,by omega,ct,har,hok2,rfl⟩
  have hob:=SlG_at (tt.legs.keep ct.keep) hlt;obtain ⟨q0,hix,hrd,_,_,_,_,_⟩:=hob;have hob:=drawn hLX (ends_runs hS fr to at' by' (ls.getD k default) (X.relow X.size))
  obtain ⟨Ya,Y,hKY,hLY,fY,fdY⟩:=hob;unfold wv at fY;have cy:=ct.more hKY;have rT:X.read H.size 0 1 = some [.slice a ls.length c]:=ct.o1.read (o:=0) (n:=1) (by simp)
  have rW:X.read H1.size 0 4 = some [.int .i64 fr,.int .i64 to,.int .i64 at',.int .i64 by']:=ct.o2.read (o:=0) (n:=4) (by simp)
  by_cases hen:(ls.getD k default).t = to ∧ (ls.getD k default).a ≤ by'
  case neg =>
    rw [decide_eq_false hen] at fY;have hok2:=hok.no (fun h => hen h.2)
    clear hok hcw hx hck tt hen ct hKY
    repeat' (first | simp only [↓Zacc,↓Zabx,↓Zabz,↓Zacb,↓Zaai,↓Zabw,↓Zaby,↓Zacy,↓Zacx,↓Zacq,↓Zaak,↓Zacl,↓Zacm,↓Zack,↓Zacg,↓Zaci,↓Zacj,↓Zacp,↓Zadd,↓Zabb,↓Zaaw,↓Zaan,↓Zaax,↓Zaav,↓Zaay,↓Zaao,↓Zaas,↓Zaat,↓Zaba,↓bxOp_min,↓Zada,↓bxPut,↓Zabu,↓Zabt,↓Zaag,↓Zaaf,↓Zabm,↓Zabl,↓Zade,↓Zabi,↓Zabg,↓Zabh,↓dstAt,↓Zabj,Zacz,Zaae,Zabk,Zaad,Zacd,Zacu,Zacw,Zacv,List.map_cons,List.map_nil,List.nil_append,List.append_nil,↓reduceIte,Nat.reduceEqDiff,Nat.reduceLT,dec_T,true_and,Zaab,Nat.add_zero,one1,Option.bind_some,Option.map_some, *,ldC,ldLs,ldG,ldW,faT0,one1] | (with_reducible first | refine Zacf (by assumption) (by decide +kernel) ?_ | refine Zace (by decide +kernel) ?_ | refine Zaco (by decide +kernel) ?_ | refine Zach ?_))
    --C
    exact ⟨ls.length - (k + 1),by omega,k + 1,ar,rfl,by omega,cy,har,hok2,rfl⟩
  rw [decide_eq_true hen] at fY;have hgc:∃ c0:Nat,x = (c0:Int) ∧ c0 < 60:=⟨x.toNat,by omega,by omega⟩
  obtain ⟨c0,hc0,hc60⟩:=hgc;have hgz:∃ z,z = min (ar.getD c0 0) (ls.getD k default).a:=⟨_,rfl⟩;obtain ⟨z,hz⟩:=hgz;have hok2:=hok.yes (hx.symm.trans hc0) hc60 har hen hz;have hob:=cy.setD hL n1 n2 n4 n3 (k:=c0) (by omega) z
  obtain ⟨Za,Z,stZ,rlZ,cz,hLZ⟩:=hob;have ra:=cy.rd (k:=c0) (by omega)
  have hixa:Zaaa Try.prog 25 (.slice (some ⟨H3.size,0,none⟩) 60 60) (.int .i64 (c0:Int)) = some (.pointer (some ⟨H3.size,c0,none⟩)):=by
    rw [show (60:Nat) = 60 from rfl,ixIs,if_pos ⟨by omega,by show (c0:Int) < ((60:Nat):Int); omega⟩,Int.toNat_natCast,Nat.mul_one,Nat.zero_add]
  have hob:=SlG_at (tt.legs.keep cy.keep) hlt;obtain ⟨q1,hix1,_,_,_,_,ga,_⟩:=hob;have hqp:q0 = q1:=by have:=hix.symm.trans hix1; simpa using this
  rw [← hqp] at ga;have rT2:Y.read H.size 0 1 = some [.slice a ls.length c]:=cy.o1.read (o:=0) (n:=1) (by simp)
  have hgy:∃ y,y = ar.getD c0 0:=⟨_,rfl⟩;obtain ⟨y,hy⟩:=hgy;have hgw:∃ w,w = (ls.getD k default).a:=⟨_,rfl⟩;obtain ⟨w,hw⟩:=hgw;rw [← hy] at hz ra;rw [← hw] at hz ga;have hzm:(if w < y then w else y) = z:=by rw [hz]; split <;> omega
  have hl2':(ar.set c0 z).length = 60:=by rw [List.length_set,har]
  have hga:∃ a2,a2 = ar.set c0 z:=⟨_,rfl⟩;obtain ⟨a2,ha2⟩:=hga;rw [← ha2] at hok2 cz hl2';subst hc0;clear hok hcw hx hck tt hen ct hKY cy hz hy hw hix1 hqp ha2
  repeat' (first | simp only [↓Zacc,↓Zabx,↓Zabz,↓Zacb,↓Zaai,↓Zabw,↓Zaby,↓Zacy,↓Zacx,↓Zacq,↓Zaak,↓Zacl,↓Zacm,↓Zack,↓Zacg,↓Zaci,↓Zacj,↓Zacp,↓Zadd,↓Zabb,↓Zaaw,↓Zaan,↓Zaax,↓Zaav,↓Zaay,↓Zaao,↓Zaas,↓Zaat,↓Zaba,↓bxOp_min,↓Zada,↓bxPut,↓Zabu,↓Zabt,↓Zaag,↓Zaaf,↓Zabm,↓Zabl,↓Zade,↓Zabi,↓Zabg,↓Zabh,↓dstAt,↓Zabj,Zacz,mm_min,Zaae,Zabk,Zaad,Zacd,Zacu,Zacw,List.map_cons,List.map_nil,List.nil_append,List.append_nil,↓reduceIte,Nat.reduceEqDiff,Nat.reduceLT,dec_T,true_and,Zaab,Nat.add_zero,one1,Option.bind_some,Option.map_some, *,ldC,ldLs,ldG,ldW,faT0,faG3,one1] | (with_reducible first | refine Zacf (by assumption) (by decide +kernel) ?_ | refine Zace (by decide +kernel) ?_ | refine Zaco (by decide +kernel) ?_ | refine Zach ?_))
  --D
  exact ⟨ls.length - (k + 1),by omega,k + 1,a2,rfl,by omega,cz,hl2',hok2,rfl⟩
end Go.Proofs.Yteechkbnccpicaa

namespace Go.Proofs.Yteechkbnccpicaa
open Go Go.AM
set_option maxRecDepth 10000

def PostS (ls:List Lg) (ch fr to at' by':Int) (H:Heap) (u:Value) (H':Heap):Prop:=
  ∃ (x:Value) (b:Bool) (js:List Nat),u = .tuple ⟨[x,.bool b]⟩ ∧ Keep H H' ∧ (js = [] → x = .slice none 0 0) ∧
    (fr = to → b = decide (at' ≤ by') ∧ js = []) ∧
    (fr ≠ to → (b = false ∧ js = [] ∧ ∀ i r,Ch ls ch i r → BegB fr at' (ls.getD i default) → ¬ EndsB to by' (ls.getD (lastN i r) default)) ∨
      (b = true ∧ JL H.size H' x js ∧ ∃ i r,js = i :: r ∧ Short ls ch (BegB fr at') (EndsB to by') i r))

variable {S:AM.Sys} (hS:Only S 11)
include hS

end Go.Proofs.Yteechkbnccpicaa
