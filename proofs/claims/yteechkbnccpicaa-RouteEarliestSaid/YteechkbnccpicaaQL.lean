/- The best trips, by the program: the earliest arrival of each number of changes. -/
import Derived.Test.YteechkbnccpicaaQK
set_option linter.unusedVariables false
set_option linter.unusedSimpArgs false
set_option linter.unusedSectionVars false

namespace Go.Proofs.Yteechkbnccpicaa
open Go Go.AM
set_option maxRecDepth 10000

def PK (ls:List Lg) (E:Lg → Prop) (d:List Int) (k:Nat) (x y:Int):Prop:=∃ j,j < k ∧ d.getD j 0 = x ∧ x < 10060 ∧ E (ls.getD j default) ∧ (ls.getD j default).a = y
def ArrOk (ls:List Lg) (E:Lg → Prop) (d:List Int) (k:Nat) (ar:List Int):Prop:=∀ x:Nat,x < 60 → (∀ y,PK ls E d k x y → ar.getD x 0 ≤ y) ∧ (ar.getD x 0 = 10060 ∨ PK ls E d k x (ar.getD x 0))
theorem PK.succ {ls:List Lg} {E:Lg → Prop} {d:List Int} {k:Nat} {x y:Int}:PK ls E d (k + 1) x y ↔ PK ls E d k x y ∨ (d.getD k 0 = x ∧ x < 10060 ∧ E (ls.getD k default) ∧ (ls.getD k default).a = y):=by
  constructor
  · rintro ⟨j,h1,h2⟩;rcases Nat.lt_or_ge j k with h | h
    · exact .inl ⟨j,h,h2⟩
    · obtain rfl:j = k:=by omega
      exact .inr h2
  · rintro (⟨j,h1,h2⟩ | h)
    · exact ⟨j,by omega,h2⟩
    · exact ⟨k,by omega,h⟩
theorem ArrOk.no {ls:List Lg} {E:Lg → Prop} {d:List Int} {k:Nat} {ar:List Int} (h:ArrOk ls E d k ar) (hn:¬ (d.getD k 0 < 10060 ∧ E (ls.getD k default))):ArrOk ls E d (k + 1) ar:=fun x hx => by
  obtain ⟨h1,h2⟩:=h x hx;refine ⟨fun y hy => ?_,h2.imp id fun h => PK.succ.2 (.inl h)⟩
  rcases PK.succ.1 hy with h | ⟨k1,k2,k3,_⟩
  · exact h1 y h
  · exact absurd ⟨by omega,k3⟩ hn
theorem ArrOk.yes {ls:List Lg} {E:Lg → Prop} {d:List Int} {k:Nat} {ar:List Int} (h:ArrOk ls E d k ar) {c0:Nat} (hc:d.getD k 0 = (c0:Int)) (h60:c0 < 60) (hl:ar.length = 60) (hE:E (ls.getD k default)) {z:Int} (hz:z = min (ar.getD c0 0) (ls.getD k default).a):ArrOk ls E d (k + 1) (ar.set c0 z):=fun x hx => by
  obtain ⟨h1,h2⟩:=h x hx
  by_cases hxc:x = c0
  · subst hxc;rw [set_same (by omega)]
    refine ⟨fun y hy => ?_,?_⟩
    · rcases PK.succ.1 hy with h | ⟨_,_,_,k4⟩
      · have:=h1 y h; omega
      · omega
    · rcases Int.le_total (ar.getD x 0) (ls.getD k default).a with hle | hle
      · rw [hz,Int.min_eq_left hle];exact h2.imp id fun h => PK.succ.2 (.inl h)
      · rw [hz,Int.min_eq_right hle];exact .inr (PK.succ.2 (.inr ⟨hc,by omega,hE,rfl⟩))
  · rw [set_other hxc];refine ⟨fun y hy => ?_,h2.imp id fun h => PK.succ.2 (.inl h)⟩
    rcases PK.succ.1 hy with h | ⟨k1,_⟩
    · exact h1 y h
    · omega
structure TrOk (ar:List Int) (x0:Nat) (least:Int) (l:List (Int × Int)):Prop where
  asc:l.Pairwise fun p q => p.1 < q.1 ∧ q.2 < p.2
  mem:∀ p ∈ l,∃ x:Nat,x < x0 ∧ p = ((x:Int),ar.getD x 0) ∧ ar.getD x 0 < 10060 ∧ least ≤ p.2
  all:∀ x,x < x0 → ar.getD x 0 < 10060 → ∃ p ∈ l,p.1 ≤ (x:Int) ∧ p.2 ≤ ar.getD x 0
  low:∀ x,x < x0 → least ≤ ar.getD x 0
  le:least ≤ 10060
theorem TrOk.nil {ar:List Int}:TrOk ar 0 10060 []:=⟨.nil,(fun p hp => by cases hp),fun x hx => absurd hx (Nat.not_lt_zero x),fun x hx => absurd hx (Nat.not_lt_zero x),Int.le_refl _⟩
theorem TrOk.no {ar:List Int} {x0:Nat} {least:Int} {l:List (Int × Int)} (h:TrOk ar x0 least l) (hm:least = 10060 ∨ ∃ p ∈ l,p.2 = least) (hn:¬ ar.getD x0 0 < least):TrOk ar (x0 + 1) least l:=by
  refine ⟨h.asc,fun p hp => ?_,fun x hx h1 => ?_,fun x hx => ?_,h.le⟩
  · obtain ⟨x,h1,h2⟩:=h.mem p hp;exact ⟨x,by omega,h2⟩
  · rcases Nat.lt_or_ge x x0 with h2 | h2
    · exact h.all x h2 h1
    · obtain rfl:x = x0:=by omega
      rcases hm with hm | ⟨p,hp,hm⟩
      · omega
      · obtain ⟨x',k1,k2,_⟩:=h.mem p hp;refine ⟨p,hp,?_,by omega⟩
        rw [k2]; show ((x':Nat):Int) ≤ _; omega
  · rcases Nat.lt_or_ge x x0 with h2 | h2
    · exact h.low x h2
    · obtain rfl:x = x0:=by omega
      omega
theorem TrOk.yes {ar:List Int} {x0:Nat} {least:Int} {l:List (Int × Int)} (h:TrOk ar x0 least l) (hn:ar.getD x0 0 < least):TrOk ar (x0 + 1) (ar.getD x0 0) (l ++ [((x0:Int),ar.getD x0 0)]):=by
  have hle:=h.le;refine ⟨List.pairwise_append.2 ⟨h.asc,List.pairwise_singleton _ _,fun p hp q hq => ?_⟩,fun p hp => ?_,fun x hx h1 => ?_,fun x hx => ?_,by omega⟩
  · obtain ⟨x,h1,h2,_,h3⟩:=h.mem p hp;cases List.mem_singleton.1 hq;refine ⟨?_,by show ar.getD x0 0 < p.2; omega⟩
    rw [h2]; show ((x:Nat):Int) < _; omega
  · rcases List.mem_append.1 hp with hp | hp
    · obtain ⟨x,h1,h2,h3,h4⟩:=h.mem p hp;exact ⟨x,by omega,h2,h3,by omega⟩
    · cases List.mem_singleton.1 hp;exact ⟨x0,by omega,rfl,by omega,Int.le_refl _⟩
  · rcases Nat.lt_or_ge x x0 with h2 | h2
    · obtain ⟨p,h3,h4⟩:=h.all x h2 h1;exact ⟨p,List.mem_append.2 (.inl h3),h4⟩
    · obtain rfl:x = x0:=by omega
      exact ⟨_,List.mem_append.2 (.inr (List.mem_singleton.2 rfl)),Int.le_refl _,Int.le_refl _⟩
  · rcases Nat.lt_or_ge x x0 with h2 | h2
    · have:=h.low x h2; omega
    · obtain rfl:x = x0:=by omega
      exact Int.le_refl _
structure CT (H X:Heap) (b1 b2 lr l2:Nat) (c1 c2:List Value) (d2 d:List Int):Prop where
  keep:Keep H X
  o1:Own X b1 64 c1
  o2:Own X b2 72 c2
  o4:Own X l2 3 (d2.map fun z => .int .i64 z)
  o3:Own X lr 3 (d.map fun z => .int .i64 z)
variable {H X Y:Heap} {b1 b2 lr l2:Nat} {c1 c2:List Value} {d2 d:List Int}
theorem CT.more (h:CT H X b1 b2 lr l2 c1 c2 d2 d) (hk:Keep X Y):CT H Y b1 b2 lr l2 c1 c2 d2 d:=⟨h.keep.trans hk,h.o1.keep hk,h.o2.keep hk,h.o4.keep hk,h.o3.keep hk⟩
theorem CT.rd (h:CT H X b1 b2 lr l2 c1 c2 d2 d) {k:Nat} (hk:k < d.length):X.read lr k 1 = some [.int .i64 (d.getD k 0)]:=by
  rw [h.o3.read (o:=k) (n:=1) (by simp; omega),← List.map_drop,← List.map_take,List.drop_eq_getElem_cons hk,List.getD_eq_getElem?_getD,List.getElem?_eq_getElem hk]
  rfl
theorem CT.rd2 (h:CT H X b1 b2 lr l2 c1 c2 d2 d) {k:Nat} (hk:k < d2.length):X.read l2 k 1 = some [.int .i64 (d2.getD k 0)]:=by
  rw [h.o4.read (o:=k) (n:=1) (by simp; omega),← List.map_drop,← List.map_take,List.drop_eq_getElem_cons hk,List.getD_eq_getElem?_getD,List.getElem?_eq_getElem hk]
  rfl
variable {S:AM.Sys} (hS:Only S 11)
include hS

def PostTr (ls:List Lg) (ch fr at':Int) (E:Lg → Prop) (H:Heap) (u:Value) (H':Heap):Prop:=
  ∃ (d ar:List Int) (l:List (Int × Int)) (least:Int),(∀ j,j < ls.length → CW ls ch (BegB fr at') j (d.getD j 0) ∧ (d.getD j 0 = 10060 ∨ (0 ≤ d.getD j 0 ∧ d.getD j 0 < ls.length))) ∧ ArrOk ls E d ls.length ar ∧ TrOk ar 60 least l ∧ (least = 10060 ∨ ∃ p ∈ l,p.2 = least) ∧ (∀ x,x < 60 → 0 ≤ ar.getD x 0 ∧ ar.getD x 0 ≤ 10060) ∧ Keep H H' ∧ Grp H' ∧ l.length ≤ 60 ∧ ∃ L,H.size ≤ L ∧ L ≤ H'.size ∧ LstG stE 50 L H' u l
end Go.Proofs.Yteechkbnccpicaa
