/-GSo1-/
import Derived.Test.YtockbaekcbeenaaGreatDoorMkHd1
import Derived.WalkKit
import Derived.Test.YtockbaekcbeenaaGreatDoorMkGTri
import Derived.Test.YtockbaekcbeenaaGreatDoorMkGRg5
import Derived.Test.YtockbaekcbeenaaGreatDoorMkGTm3
import Derived.Test.YtockbaekcbeenaaGreatDoorMkGRg4
import Derived.Maps.OwnOps
set_option linter.unusedVariables false
set_option linter.unusedSectionVars false
set_option linter.unusedSimpArgs false
set_option maxRecDepth 100000
set_option maxHeartbeats 2000000
namespace Go.Proofs.YtockbaekcbeenaaGreatDoor.So
variable {α:Type} [DecidableEq α]
structure Ord (cf:α→α→Int) (V:α→Prop):Prop where
 neg:∀ a b,cf b a = - cf a b
 trans:∀ a b c,cf a b≤0→cf b c≤0→cf a c≤0
 zero:∀ a b,V a→V b→cf a b=0→a=b
variable {cf:α→α→Int} {V:α→Prop}
theorem Ord.lt (h:Ord cf V) {p q r:α} (h1:cf p q<0) (h2:cf q r<0):cf p r<0:=by have h0:=h.trans p q r (Int.le_of_lt h1) (Int.le_of_lt h2);rcases Int.lt_or_eq_of_le h0 with h3 | h3;{exact h3};{exfalso;have h4:cf r p≤0:=(by rw [h.neg p r,h3];decide);have h5:=h.trans q r p (Int.le_of_lt h2) h4;have:=h.neg p q;omega}
theorem Ord.self (h:Ord cf V) (a:α):cf a a=0:=by have:=h.neg a a;omega
def fG (cf:α→α→Int) (l:List α):Prop:=l.Pairwise fun a b=>cf a b<0
theorem AO (hO:Ord cf V):∀ {l m:List α},fG cf l→fG cf m→(∀ t,t∈l↔t∈m)→l=m
 | [],[],_,_,_=>rfl
 | [],b::m,_,_,h=>absurd ((h b).2 aH) aH
 | a::l,[],_,_,h=>absurd ((h a).1 aH) aH
 | a::l,b::m,hl,hm,h=>by
  obtain ⟨h1,h2⟩:=List.pairwise_cons.1 hl
  obtain ⟨k1,k2⟩:=List.pairwise_cons.1 hm
  have hself:∀ t,¬ cf t t<0:=fun t ht=>by have:=hO.self t;omega
  have e:a=b:=by
   have ha:=(h a).1 aH
   have hb:=(h b).2 aH
   rcases List.mem_cons.1 ha with e | ha
   · exact e
   · rcases List.mem_cons.1 hb with e | hb
     · exact e.symm
     · exact absurd (hO.lt (k1 a ha) (h1 b hb)) (hself b)
  subst e
  rw [AO hO h2 k2 fun t=>?_]
  constructor
  · intro ht
    rcases List.mem_cons.1 ((h t).1 (by simp [ht])) with rfl | h3
    · exact absurd (h1 t ht) (hself t)
    · exact h3
  · intro ht
    rcases List.mem_cons.1 ((h t).2 (by simp [ht])) with rfl | h3
    · exact absurd (k1 t ht) (hself t)
    · exact h3
def put (cf:α→α→Int) (l:List α) (t:α):List α:=if (l.dropWhile fun a=>decide (cf a t<0)).head?=some t then l else (l.takeWhile fun a=>decide (cf a t<0))++t::l.dropWhile fun a=>decide (cf a t<0)
theorem put_mem (l:List α) (t x:α):x∈put cf l t↔x∈l∨x=t:=by
 have e:=List.takeWhile_append_dropWhile (p:=fun a=>decide (cf a t<0)) (l:=l);unfold put;split;{rename_i h;constructor;{exact .inl};{rintro (h1 | rfl);{exact h1};{rw [←e];have:=List.mem_of_mem_head? (Option.mem_def.2 h);exact List.mem_append_right _ this}}}
 · conv=>rhs;rw [←e]
   simp only [List.mem_append,List.mem_cons];constructor;{rintro (h1 | h1 | h1);{exact .inl (.inl h1)};{exact .inr h1};{exact .inl (.inr h1)}};{rintro ((h1 | h1) | h1);{exact .inl h1};{exact .inr (.inr h1)};{exact .inr (.inl h1)}}
theorem Jt (hO:Ord cf V) {l:List α} {t:α} (hl:fG cf l) (hv:∀ a∈l,V a) (ht:V t):fG cf (put cf l t):=by
 have e:=List.takeWhile_append_dropWhile (p:=fun a=>decide (cf a t<0)) (l:=l);unfold put;split;{exact hl}
 · rename_i h;have hp:fG cf (l.takeWhile (fun a=>decide (cf a t<0))++l.dropWhile (fun a=>decide (cf a t<0))):=(by rw [e];exact hl);obtain ⟨p1,p2,p3⟩:=List.pairwise_append.1 hp;have hlo:∀ a∈l.takeWhile (fun a=>decide (cf a t<0)),cf a t<0:=fun a ha=>(by have h1:(l.takeWhile (fun a=>decide (cf a t<0))).all (fun a=>decide (cf a t<0))=true:=List.all_takeWhile;simpa using List.all_eq_true.1 h1 a ha);have hhi:∀ b∈l.dropWhile (fun a=>decide (cf a t<0)),cf t b<0:=by
    obtain ⟨d,hd⟩:=aC (l.dropWhile (fun a=>decide (cf a t<0)));rw [←hd] at h p2 p3 ⊢;cases d with
    | nil=>intro b hb;cases hb
    | cons c d=>have hc:¬ cf c t<0:=(by have:=List.head?_dropWhile_not (fun a=>decide (cf a t<0)) l;rw [←hd] at this;simpa using this);have hcm:c∈l:=(by rw [←e,←hd];simp);have hne:c≠t:=fun e=>h (by rw [e];rfl);have h0:cf c t≠0:=fun h0=>hne (hO.zero _ _ (hv c hcm) ht h0);have hn:=hO.neg c t;have hct:cf t c<0:=ay;intro b hb;rcases List.mem_cons.1 hb with rfl | hb;{exact hct};{exact hO.lt hct ((List.pairwise_cons.1 p2).1 b hb)}
   refine List.pairwise_append.2 ⟨p1,List.pairwise_cons.2 ⟨hhi,p2⟩,fun a ha b hb=>?_⟩;rcases List.mem_cons.1 hb with rfl | hb;{exact hlo a ha};{exact p3 a ha b hb}
theorem vR (hO:Ord cf V):∀ (l a:List α),fG cf a→(∀ t∈a,V t)→(∀ t∈l,V t)→fG cf (l.foldl (put cf) a)∧∀ x,x∈l.foldl (put cf) a↔x∈a∨x∈l
 | [],a,hs,_,_=>⟨hs,fun x=>aH⟩
 | t::l,a,hs,ha,hl=>by
  obtain ⟨h1,h2⟩:=vR hO l (put cf a t) (Jt hO hs ha (hl t aH)) (fun x hx=>by
   rcases (put_mem a t x).1 hx with h | rfl
   · exact ha x h
   · exact hl x aH) (fun x hx=>hl x (by simp [hx]))
  refine ⟨h1,fun x=>?_⟩
  rw [List.foldl_cons,h2 x,put_mem,List.mem_cons]
  constructor
  · rintro ((h | h) | h)
    · exact .inl h
    · exact .inr (.inl h)
    · exact .inr (.inr h)
  · rintro (h | h | h)
    · exact .inl (.inl h)
    · exact .inl (.inr h)
    · exact .inr h
theorem AQ (l:List α) (t:α):(put cf l t).length≤l.length+1:=by have e:=congrArg List.length (List.takeWhile_append_dropWhile (p:=fun a=>decide (cf a t<0)) (l:=l));unfold put;split;{omega};{simp only [List.length_append,List.length_cons] at *;omega}
theorem AU:∀ (l a:List α),(l.foldl (put cf) a).length≤a.length+l.length
 | [],a=>aH
 | t::l,a=>by
  have:=AU l (put cf a t)
  have h:=AQ (cf:=cf) a t
  rw [List.foldl_cons,List.length_cons];omega
def all (cf:α→α→Int) (l:List α):List α:=l.foldl (put cf) []
theorem QX (hO:Ord cf V) {l:List α} (hl:∀ t∈l,V t):fG cf (all cf l):=(vR hO l [] List.Pairwise.nil aH hl).1
theorem JM (hO:Ord cf V) {l:List α} (hl:∀ t∈l,V t) (x:α):x∈all cf l↔x∈l:=by have:=(vR hO l [] List.Pairwise.nil aH hl).2 x;unfold all;simpa using this
theorem QY (l:List α):(all cf l).length≤l.length:=by have:=AU (cf:=cf) l [];simpa [all] using this
theorem all_eq (hO:Ord cf V) {l m:List α} (hl:∀ t∈l,V t) (hm:fG cf m) (h:∀ t,t∈m↔t∈l):m=all cf l:=
 AO hO hm (QX hO hl) fun t=>by rw [h,JM hO hl]
theorem JN (hO:Ord cf V) {l:List α} (h:fG cf l):l.Nodup:=List.Pairwise.imp (fun {a b} hab e=>by subst e;have:=hO.self a;omega) h
theorem E9 (hO:Ord cf V) {l:List α} (h:fG cf l) {i j:Nat} (hi:i<l.length) (hj:j<l.length):cf l[i] l[j]<0↔i<j:=by constructor;{intro hc;rcases Nat.lt_trichotomy i j with h1 | h1 | h1;{exact h1};{subst h1;have:=hO.self l[i];omega};{have:=List.pairwise_iff_getElem.1 h j i hj hi h1;have:=hO.neg l[i] l[j];omega}};{exact List.pairwise_iff_getElem.1 h i j hi hj}
def num (E:List α) (t:α):Nat:=if t∈E then E.findIdx (fun a=>decide (a=t))+1 else 0
theorem A_ {E:List α} {t:α} (h:¬ t∈E):num E t=0:=if_neg h
theorem rV {E:List α} {t:α} (h:t∈E):∃ i,∃ h:i<E.length,num E t=i+1∧E[i]=t:=by have hl:E.findIdx (fun a=>decide (a=t))<E.length:=List.findIdx_lt_length_of_exists ⟨t,h,aH⟩;refine ⟨_,hl,if_pos h,?_⟩;have:=List.findIdx_getElem (p:=fun a=>decide (a=t)) (w:=hl);simpa using this
theorem JO {E:List α} (hn:E.Nodup) {i:Nat} (hi:i<E.length):num E E[i]=i+1:=by obtain ⟨j,hj,h1,h2⟩:=rV (List.getElem_mem hi);have e:j=i:=(List.getElem_inj hn).1 h2;rw [h1,e]
theorem JQ {E:List α} (t:α):num E t≤E.length:=by by_cases h:t∈E;{obtain ⟨i,hi,h1,_⟩:=rV h;omega};{rw [A_ h];exact Nat.zero_le _}
theorem E_ {E:List α} {t:α}:0<num E t↔t∈E:=by by_cases h:t∈E;{obtain ⟨i,hi,h1,_⟩:=rV h;exact ⟨fun _=>h,fun _=>ay⟩};{rw [A_ h];exact ⟨fun h=>absurd h ay,fun h2=>absurd h2 h⟩}
theorem DF (hO:Ord cf V) {E:List α} (h:fG cf E) {a b:α} (ha:a∈E) (hb:b∈E):cf a b<0↔num E a<num E b:=by obtain ⟨i,hi,h1,rfl⟩:=rV ha;obtain ⟨j,hj,h2,rfl⟩:=rV hb;rw [h1,h2,E9 hO h];omega
def cp (l:List α):Nat→List α
 | 0=>[]
 | m+1=>cp l m++if 0<m∧l[m]?=l[m-1]? then [] else l[m]?.toList
theorem QZ (l:List α):∀ m,(cp l m).length≤m
 | 0=>by simp [cp]
 | m+1=>by
  have:=QZ l m
  rw [cp,List.length_append]
  split
  · simp only [List.length_nil];omega
  · cases l[m]? <;> simp <;> omega
theorem Fa {l:List α} {m:Nat} (h:m<l.length) (hne:m=0∨l[m]?≠l[m-1]?):cp l (m+1)=cp l m++[l[m]]:=by
 rw [cp,if_neg (by
  rcases hne with rfl | h2;{simp}
  · exact fun h=>h2 h.2),List.getElem?_eq_getElem h];rfl
theorem JR {l:List α} {m:Nat} (hm:0<m) (h:l[m]?=l[m-1]?):cp l (m+1)=cp l m:=by rw [cp,if_pos ⟨hm,h⟩,List.append_nil]
theorem JU {l:List α}:∀ (m:Nat),m≤l.length→(∀ i,0<i→i<m→l[i]?≠l[i-1]?)→cp l m=l.take m
 | 0,_,_=>by simp [cp]
 | m+1,h,hd=>by
  rw [Fa ay (by
   rcases Nat.eq_zero_or_pos m with h0 | h0
   · exact .inl h0
   · exact .inr (hd m h0 ay)),JU m ay fun i h1 h2=>hd i h1 ay]
  rw [List.take_succ_eq_append_getElem ay]
theorem JV {l:List α}:∀ (m:Nat),m≤l.length→∀ x,x∈cp l m↔∃ i,i<m∧l[i]?=some x
 | 0,_,x=>by simp [cp]
 | m+1,h,x=>by
  have ih:=JV (l:=l) m ay x
  have hg:l[m]?=some l[m]:=List.getElem?_eq_getElem ay
  by_cases ho:0<m∧l[m]?=l[m-1]?
  · rw [JR ho.1 ho.2,ih]
    constructor
    · rintro ⟨i,h1,h2⟩;exact ⟨i,ay,h2⟩
    · rintro ⟨i,h1,h2⟩
      by_cases he:i=m
      · subst he;exact ⟨i-1,ay,by rw [←ho.2];exact h2⟩
      · exact ⟨i,ay,h2⟩
  · rw [Fa ay (by
     rcases Nat.eq_zero_or_pos m with h0 | h0
     · exact .inl h0
     · exact .inr fun h=>ho ⟨h0,h⟩),List.mem_append,ih,List.mem_singleton]
    constructor
    · rintro (⟨i,h1,h2⟩ | rfl)
      · exact ⟨i,ay,h2⟩
      · exact ⟨m,ay,hg⟩
    · rintro ⟨i,h1,h2⟩
      by_cases he:i=m
      · subst he;rw [hg] at h2;exact .inr (Option.some.inj h2).symm
      · exact .inl ⟨i,ay,h2⟩
theorem Q0 (hO:Ord cf V) {l:List α} (hs:l.Pairwise fun a b=>cf a b≤0) (hV:∀ a∈l,V a):∀ (m:Nat),m≤l.length→fG cf (cp l m)
 | 0,_=>by simp [cp,fG]
 | m+1,h=>by
  have ih:=Q0 hO hs hV m ay
  by_cases ho:0<m∧l[m]?=l[m-1]?
  · rw [JR ho.1 ho.2];exact ih
  · rw [Fa ay (by
     rcases Nat.eq_zero_or_pos m with h0 | h0
     · exact .inl h0
     · exact .inr fun h=>ho ⟨h0,h⟩)]
    refine List.pairwise_append.2 ⟨ih,List.pairwise_singleton _ _,fun a ha b hb=>?_⟩
    rw [List.mem_singleton.1 hb]
    obtain ⟨i,hi,h2⟩:=(JV m ay a).1 ha
    have hil:i<l.length:=ay
    rw [List.getElem?_eq_getElem hil] at h2
    have e:=Option.some.inj h2
    subst e
    have hle:=List.pairwise_iff_getElem.1 hs i m hil ay hi
    rcases Int.lt_or_eq_of_le hle with h3 | h3
    · exact h3
    · exfalso
      have e:=hO.zero _ _ (hV _ (List.getElem_mem hil)) (hV _ (List.getElem_mem (by omega:m<l.length))) h3
      have hne:l[m]≠l[m-1]:=fun e2=>ho ⟨ay,by rw [List.getElem?_eq_getElem ay,List.getElem?_eq_getElem ay,e2]⟩
      have h4:cf l[i] l[m-1]≤0:=by
       rcases Nat.lt_or_ge i (m-1) with h5 | h5
       · exact List.pairwise_iff_getElem.1 hs i (m-1) hil ay h5
       · have:i=m-1:=ay
         subst this
         have:=hO.self l[m-1];omega
      have h5:=List.pairwise_iff_getElem.1 hs (m-1) m ay ay ay
      rw [e] at h4
      have h6:=hO.neg l[m-1] l[m]
      exact hne (hO.zero _ _ (hV _ (List.getElem_mem _)) (hV _ (List.getElem_mem _)) ay)
theorem abO (hO:Ord cf V) {l m:List α} (hs:m.Pairwise fun a b=>cf a b≤0) (hV:∀ a∈l,V a) (hp:m.Perm l):cp m m.length=all cf l:=by have hVm:∀ a∈m,V a:=fun a ha=>hV a (hp.mem_iff.1 ha);refine all_eq hO hV (Q0 hO hs hVm _ aG) fun t=>?_;rw [JV _ aG,←hp.mem_iff,List.mem_iff_getElem?];constructor;{rintro ⟨i,_,h⟩;exact ⟨i,h⟩};{rintro ⟨i,h⟩;refine ⟨i,?_,h⟩;rcases Nat.lt_or_ge i m.length with h1 | h1;{exact h1};{rw [List.getElem?_eq_none h1] at h;cases h}}
abbrev T3:=Tm.T3
abbrev TT:=Tm.TT
def sh (a:T3):Tm.T:=Tm.aO a.1 a.2.1 a.2.2
def cT (a b:T3):Int:=Tm.cmp (sh a) (sh b)
def dH (a:T3):Prop:=Tm.dH a=true
theorem abP {a b:T3} (ha:dH a) (hb:dH b) (h:sh a=sh b):a=b:=by obtain ⟨n,t,x⟩:=a;obtain ⟨m,u,y⟩:=b;obtain ⟨e1,e2,e3⟩:=(Tm.Ez ha hb).1 h;exact Prod.ext e1 (Prod.ext e2 e3)
theorem gB:Ord cT dH where
 neg a b:=Tm.j_ _ _
 trans a b c h1 h2:=Tm.zQ h1 h2
 zero a b ha hb h:=abP ha hb (Tm.nZ.1 h)
def flat (l:List TT):List T3:=l.flatMap fun p=>[p.1,p.2.1,p.2.2]
theorem abQ (l:List TT) (p:TT):flat (l++[p])=flat l++[p.1,p.2.1,p.2.2]:=by simp [flat]
theorem nW:∀ (l:List TT),(flat l).length=3*l.length
 | []=>rfl
 | p::l=>by
  have:=nW l
  show ([p.1,p.2.1,p.2.2]++flat l).length=_
  simp only [List.length_append,List.length_cons,List.length_nil,this];omega
theorem Fb {l:List TT} {t:T3}:t∈flat l↔∃ p∈l,t=p.1∨t=p.2.1∨t=p.2.2:=by simp [flat]
theorem Fe {p:TT} (h:Tm.bf p=true):dH p.1∧dH p.2.1∧dH p.2.2:=by obtain ⟨_,_,h1,h2,h3⟩:=Tm.rR h;exact ⟨h1,h2,h3⟩
theorem Ba {l:List TT} (h:∀ p∈l,Tm.bf p=true):∀ t∈flat l,dH t:=fun t ht=>by obtain ⟨p,hp,h2⟩:=Fb.1 ht;obtain ⟨a,b,c⟩:=Fe (h p hp);rcases h2 with rfl | rfl | rfl;{exact a};{exact b};{exact c}
def terms (l:List TT):List T3:=all cT (flat l)
theorem Fg {l:List TT} (h:∀ p∈l,Tm.bf p=true):fG cT (terms l):=QX gB (Ba h)
theorem Fh {l:List TT} (h:∀ p∈l,Tm.bf p=true) (t:T3):t∈terms l↔t∈flat l:=JM gB (Ba h) t
theorem Q5 {l:List TT} (h:∀ p∈l,Tm.bf p=true):∀ t∈terms l,dH t:=fun t ht=>Ba h t ((Fh h t).1 ht)
theorem Fj (l:List TT):(terms l).length≤3*l.length:=by rw [←nW];exact QY _
theorem Fp {l:List TT} (h:∀ p∈l,Tm.bf p=true) {p:TT} (hp:p∈l):p.1∈terms l∧p.2.1∈terms l∧p.2.2∈terms l:=
 ⟨(Fh h _).2 (Fb.2 ⟨p,hp,.inl rfl⟩),(Fh h _).2 (Fb.2 ⟨p,hp,.inr (.inl rfl)⟩),(Fh h _).2 (Fb.2 ⟨p,hp,.inr (.inr rfl)⟩)⟩
def nums (E:List T3) (p:TT):Rg.T:=((num E p.1:Nat),(num E p.2.1:Nat),(num E p.2.2:Nat))
def ids (l:List TT):List Rg.T:=l.map (nums (terms l))
theorem pO (l:List TT):(ids l).length=l.length:=List.length_map ..
theorem abR {E:List T3} (hE:fG cT E) {p q:TT} (h1:p.1∈E) (h2:p.2.1∈E) (h3:p.2.2∈E) (k1:q.1∈E) (k2:q.2.1∈E) (k3:q.2.2∈E) (hp:Tm.bf p=true) (hq:Tm.bf q=true) (h:Tm.bP p q<0):Rg.lt (nums E p) (nums E q):=by
 obtain ⟨p1,p2,p3⟩:=Fe hp;obtain ⟨q1,q2,q3⟩:=Fe hq;have e:Tm.bP p q=if cT p.1 q.1=0 then (if cT p.2.1 q.2.1=0 then cT p.2.2 q.2.2 else cT p.2.1 q.2.1) else cT p.1 q.1:=rfl
 rw [e] at h;by_cases a:cT p.1 q.1=0;{rw [if_pos a] at h;have ea:=gB.zero _ _ p1 q1 a;by_cases b:cT p.2.1 q.2.1=0;{rw [if_pos b] at h;have eb:=gB.zero _ _ p2 q2 b;have:=(DF gB hE h3 k3).1 h;refine .inr ⟨?_,.inr ⟨?_,?_⟩⟩;{show ((num E p.1:Nat):Int)=(num E q.1:Nat);rw [ea]};{show ((num E p.2.1:Nat):Int)=(num E q.2.1:Nat);rw [eb]};{show ((num E p.2.2:Nat):Int)<(num E q.2.2:Nat);omega}};{rw [if_neg b] at h;have:=(DF gB hE h2 k2).1 h;refine .inr ⟨?_,.inl ?_⟩;{show ((num E p.1:Nat):Int)=(num E q.1:Nat);rw [ea]};{show ((num E p.2.1:Nat):Int)<(num E q.2.1:Nat);omega}}};{rw [if_neg a] at h;have:=(DF gB hE h1 k1).1 h;refine .inl ?_;show ((num E p.1:Nat):Int)<(num E q.1:Nat);omega}
theorem abS {l:List TT} (h:∀ p∈l,Tm.bf p=true) (hs:Tm.fG l) (hl:l.length≤100):yC (ids l):=by have hE:=Fg h;have hT:=fun p (hp:p∈l)=>Fp h hp;refine ⟨?_,?_,by rw [pO];exact hl⟩;{unfold ids;rw [List.pairwise_map];refine List.Pairwise.imp_of_mem (fun {p q} hp hq hc=>?_) hs;obtain ⟨a1,a2,a3⟩:=hT p hp;obtain ⟨b1,b2,b3⟩:=hT q hq;exact abR hE a1 a2 a3 b1 b2 b3 (h p hp) (h q hq) hc};{intro t ht;obtain ⟨p,hp,rfl⟩:=List.mem_map.1 ht;obtain ⟨a1,a2,a3⟩:=hT p hp;have hb:=Fj l;have c1:=E_.2 a1;have c2:=E_.2 a2;have c3:=E_.2 a3;have d1:=JQ (E:=terms l) p.1;have d2:=JQ (E:=terms l) p.2.1;have d3:=JQ (E:=terms l) p.2.2;intro c hc;rcases Rg.c3 hc with rfl | rfl | rfl;{show 1≤((num (terms l) p.1:Nat):Int)∧((num (terms l) p.1:Nat):Int)≤1000;omega};{show 1≤((num (terms l) p.2.1:Nat):Int)∧((num (terms l) p.2.1:Nat):Int)≤1000;omega};{show 1≤((num (terms l) p.2.2:Nat):Int)∧((num (terms l) p.2.2:Nat):Int)≤1000;omega}}
end Go.Proofs.YtockbaekcbeenaaGreatDoor.So
namespace Go.Proofs.YtockbaekcbeenaaGreatDoor
open Go.Proofs.Tryz
open Go.ChangeShapes Go.WideShapes Go.ChangeAt Go.RowKit
theorem abT {a b:World} (h:a.drawn≤b.drawn):Dr a b:=⟨b.drawn-a.drawn,ay⟩
theorem abU (s:List UInt8) (W:World) (hs:s.length≤1000000000) :
  Calls prog 164 #[aA s] W fun e W'=>e=.returned (aA (34::(Tm.bL s++[34])))∧Below W.heap.size W W'∧Dr W W':=
 (Pz s W hs).mono fun _ _ h=>⟨h.1,h.2.1,abT h.2.2⟩
theorem Q6 (W:World) (a b c:Value) (t:TypeId):∃ w2,w2=W.alloc (.cells #[a,b,c] t)∧(∀ p:eB w2,p.it.cell? ⟨W.heap.size,0,none⟩=some a)∧(∀ p:eB w2,p.it.cell? ⟨W.heap.size,1,none⟩=some b)∧(∀ p:eB w2,p.it.cell? ⟨W.heap.size,2,none⟩=some c)∧Hid (Below W.heap.size W w2)∧Hid (Dr W w2):=
 ⟨_,rfl,fun p=>(bF p.low).1,fun p=>(bF p.low).2.1,fun p=>(bF p.low).2.2.1,(Below.refl W.heap.size W).alloc aG _,(Dr.refl W).alloc _⟩
theorem Q7 (k:Int) (t x:List UInt8) (W:World) (ht:t.length≤1000000000) (hx:x.length≤1000000000) :
  Calls prog 129 #[dV k t x] W fun e W'=>e=.returned (aA (Tm.show k t x))∧Below W.heap.size W W'∧Dr W W':=by have QU:=aj (fun W=>abU t W ht);have hle:=Tm.n_ t;rcases (show k=1∨k=2∨k=3∨k=4∨k=5∨(k<1∨5<k) by omega) with h | h | h | h | h | h;{subst h;go_enter func129,ntmps129;go_wp2;go_ret;exact ⟨by simp [Tm.show,Tm.aO,gV],(Below.refl _ _).alloc aG _,(Dr.refl W).alloc _⟩};{subst h;go_enter func129,ntmps129;go_wp2;go_ret;exact ⟨by simp [Tm.show,Tm.aO,gV],(Below.refl _ _).alloc aG _,(Dr.refl W).alloc _⟩};{subst h;go_enter func129,ntmps129;(go_wp2_with (go_at_call 164;refine (QU.out _).mono ?_;rintro e w' ⟨rfl,hb,hd⟩));go_ret;exact ⟨by simp [Tm.show,Tm.aO,gV],((Below.refl _ _).alloc aG _).trans (hb.mono aH),((Dr.refl W).alloc _).trans hd⟩};{subst h;go_enter func129,ntmps129;go_wp2;obtain ⟨w2,hw2,k0,k1,k2,HB,HD⟩:=Q6 W (.int .i64 4) (aA t) (aA x) 63;rw [←hw2];clear hw2;refine EP aF aF ?_;(repeat (go_big_quiet_step ((go_at_call 164;with_reducible exact eB.call (QU.out _)))));refine wpQuiet_nil ?_;rintro _ ⟨p,rfl⟩;have HP:=aj (aI HB.out p.low);have HE:=aj (HD.out.trans p.dr);clear k0 k1 k2;go_wp2;go_ret;exact ⟨by simp [Tm.show,Tm.aO,gV] <;> rfl,HP.out,HE.out⟩};{subst h;go_enter func129,ntmps129;go_wp2;obtain ⟨w2,hw2,k0,k1,k2,HB,HD⟩:=Q6 W (.int .i64 5) (aA t) (aA x) 63;rw [←hw2];clear hw2;refine EP aF aF ?_;(repeat (go_big_quiet_step ((go_at_call 164;with_reducible exact eB.call (QU.out _)))));refine wpQuiet_nil ?_;rintro _ ⟨p,rfl⟩;have HP:=aj (aI HB.out p.low);have HE:=aj (HD.out.trans p.dr);clear k0 k1 k2;go_wp2;go_ret;exact ⟨by simp [Tm.show,Tm.aO,gV] <;> rfl,HP.out,HE.out⟩};{have b1:(k==1)=false:=beq_eq_false_iff_ne.2 ay;have b2:(k==2)=false:=beq_eq_false_iff_ne.2 ay;have b3:(k==3)=false:=beq_eq_false_iff_ne.2 ay;have b4:(k==4)=false:=beq_eq_false_iff_ne.2 ay;have b5:(k==5)=false:=beq_eq_false_iff_ne.2 ay;have HS:=aj (Tm.PU h t x);clear h;go_enter func129,ntmps129;go_wp2;go_ret;exact ⟨by rw [HS.out];rfl,(Below.refl _ _).alloc aG _,(Dr.refl W).alloc _⟩}
theorem abV (k k2:Int) (t x t2 x2:List UInt8) (W:World) (ht:t.length≤1000000000) (hx:x.length≤1000000000) (ht2:t2.length≤1000000000) (hx2:x2.length≤1000000000) :
  Calls prog 107 #[dV k t x,dV k2 t2 x2] W fun e W'=>e=.returned (.int .i64 (Tm.cmp (Tm.show k t x) (Tm.show k2 t2 x2)))∧Below W.heap.size W W'∧Dr W W':=by
 have S1:=aj (fun W=>Q7 k t x W ht hx);have S2:=aj (fun W=>Q7 k2 t2 x2 W ht2 hx2);obtain ⟨a,ha⟩:=aC (Tm.show k t x);obtain ⟨b,hb⟩:=aC (Tm.show k2 t2 x2);rw [←ha] at S1 ⊢;rw [←hb] at S2 ⊢;clear ha hb;go_enter func107,ntmps107;go_wp2;obtain ⟨w2,hw2⟩:=aC (((W.alloc (.cells #[.int .i64 k,aA t,aA x] 63)).alloc (.cells #[.int .i64 k2,aA t2,aA x2] 63)));have HB:=aj (show Below W.heap.size W w2 by rw [hw2];exact ((Below.refl W.heap.size W).alloc aG _).alloc aH _);have HD:=aj (show Dr W w2 by rw [hw2];exact ((Dr.refl W).alloc _).alloc _);have hb1:=((Below.refl (W.alloc (.cells #[.int .i64 k,aA t,aA x] 63)).heap.size (W.alloc (.cells #[.int .i64 k,aA t,aA x] 63))).alloc aG (.cells #[.int .i64 k2,aA t2,aA x2] 63));rw [←hw2] at hb1 ⊢;obtain ⟨c0,c1,c2,_⟩:=bF hb1;have d0:w2.cell? ⟨W.heap.size+1,0,none⟩=some (.int .i64 k2):=by have:=kK (W.alloc (.cells #[.int .i64 k,aA t,aA x] 63)) #[.int .i64 k2,aA t2,aA x2] 63 (0,0) 0;rw [←hw2] at this;simpa using this
 have d1:w2.cell? ⟨W.heap.size+1,1,none⟩=some (aA t2):=by have:=kK (W.alloc (.cells #[.int .i64 k,aA t,aA x] 63)) #[.int .i64 k2,aA t2,aA x2] 63 (0,0) 1;rw [←hw2] at this;simpa using this
 have d2:w2.cell? ⟨W.heap.size+1,2,none⟩=some (aA x2):=by have:=kK (W.alloc (.cells #[.int .i64 k,aA t,aA x] 63)) #[.int .i64 k2,aA t2,aA x2] 63 (0,0) 2;rw [←hw2] at this;simpa using this
 clear hw2 hb1;have Ay:=fun p:eB w2=>p.keep c0;have Az:=fun p:eB w2=>p.keep c1;have AA:=fun p:eB w2=>p.keep c2;have JW:=fun p:eB w2=>p.keep d0;have JX:=fun p:eB w2=>p.keep d1;have JY:=fun p:eB w2=>p.keep d2;clear c0 c1 c2 d0 d1 d2;refine EP aF aF ?_;repeat (go_big_quiet_step (first
  | (go_at_call 134;exact eB.call ((PV _ _ _).mono fun _ _ h=>⟨h.1,by rw [←h.2];exact Below.refl _ _,by rw [←h.2];exact Dr.refl _⟩))
  | (go_at_call 129;with_reducible exact eB.call (S1.out _))
  | (go_at_call 129;with_reducible exact eB.call (S2.out _))))
 refine wpQuiet_nil ?_;rintro _ ⟨p,rfl⟩;have HP:=aj (aI HB.out p.low);have HE:=aj (HD.out.trans p.dr);clear Ay Az AA JW JX JY;go_wp2;go_ret;exact ⟨rfl,HP.out,HE.out⟩
open Go.Sort
abbrev T3:=So.T3
def bW (a:T3):List Value:=[.int .i64 (a.1:Nat),aA a.2.1,aA a.2.2]
abbrev vV (a:T3):Value:=dV (a.1:Nat) a.2.1 a.2.2
theorem uh (a:T3):∀ u∈bW a,u.oneCell'=true:=by intro u hu;simp only [bW,List.mem_cons,List.not_mem_nil,or_false] at hu;rcases hu with rfl | rfl | rfl <;> rfl
theorem Bb (a:T3) (c:Nat) (hc:c<3):(bW a)[c]?=some (bW a)[c]!:=by rcases Rg.c3 hc with rfl | rfl | rfl <;> rfl
def bQ (W:World) (v:Value) (E:List T3):Prop:=∃ (a:Option Addr) (cap:Nat),v=.slice a E.length cap∧E.length≤cap∧cap≤maxLen∧(a=none→cap=0) ∧
 (E.length=0∨∃ b off,a=some ⟨b,off,none⟩∧∀ i (h:i<E.length) c,c<3→W.cell? ⟨b,off+i*3+c,none⟩=(bW E[i])[c]?)
theorem bQ.keep {W W':World} {v:Value} {E:List T3} (h:bQ W v E) (hb:Below W.heap.size W W'):bQ W' v E:=by obtain ⟨a,cap,h1,h2,h3,h4,h5⟩:=h;refine ⟨a,cap,h1,h2,h3,h4,?_⟩;rcases h5 with h5 | ⟨b,off,e,h5⟩;{exact Or.inl h5};{exact Or.inr ⟨b,off,e,fun i hi c hc=>by rw [Bb _ c hc];exact aD hb (by rw [←Bb _ c hc];exact h5 i hi c hc)⟩}
theorem bQ.nil (W:World):bQ W (.slice none 0 0) []:=⟨none,0,rfl,Nat.le_refl _,by unfold maxLen;omega,fun _=>rfl,Or.inl rfl⟩
theorem bQ.open {W:World} {v:Value} {E:List T3} (h:bQ W v E):∃ a cap,v=.slice a E.length cap∧E.length≤cap∧cap≤maxLen∧(a=none→cap=0):=by obtain ⟨a,cap,h1,h2,h3,h4,_⟩:=h;exact ⟨a,cap,h1,h2,h3,h4⟩
theorem bQ.get {W:World} {a:Option Addr} {n cap:Nat} {E:List T3} (h:bQ W (.slice a n cap) E) {i:Nat} (hi:i<E.length):∃ b off,a=some ⟨b,off,none⟩∧∀ i (h:i<E.length) c,c<3→W.cell? ⟨b,off+i*3+c,none⟩=(bW E[i])[c]?:=by obtain ⟨a',cap',e,h2,h3,h4,h5⟩:=h;simp only [Value.slice.injEq] at e;obtain ⟨rfl,rfl,rfl⟩:=e;rcases h5 with h5 | h5;{omega};{exact h5}
theorem bQ.at {W:World} {b off n cap:Nat} {E:List T3} (h:bQ W (.slice (some ⟨b,off,none⟩) n cap) E) {i:Nat} (hi:i<E.length) :
  W.cell? ⟨b,off+i*3,none⟩=some (.int .i64 (E[i].1:Nat))∧W.cell? ⟨b,off+i*3+1,none⟩=some (aA E[i].2.1)∧W.cell? ⟨b,off+i*3+2,none⟩=some (aA E[i].2.2):=by obtain ⟨b',off',e,h1⟩:=h.get hi;cases e;exact ⟨h1 i hi 0 ay,h1 i hi 1 ay,h1 i hi 2 ay⟩
abbrev VT:={a:T3 // So.dH a}
instance:Inhabited VT:=⟨⟨(1,[97],[]),by show Tm.dH (1,[97],[])=true;kernel_rfl⟩⟩
def lU (a:VT):List Value:=bW a.1
def mQ (a b:VT):Int:=So.cT a.1 b.1
theorem vW (a:VT):a.1.2.1.length≤1000000000∧a.1.2.2.length≤1000000000∧1≤a.1.1∧a.1.1≤5:=by
 have h1:=Tm.iV a.2;obtain ⟨n,hn,h2,h3⟩:=Tm.iD a.2;have:a.1.1=n:=by exact_mod_cast hn
 exact ⟨ay,ay,ay,ay⟩
theorem Fq (a:VT):Tm.show (a.1.1:Nat) a.1.2.1 a.1.2.2=So.sh a.1:=Tm.Er ⟨(vW a).2.2.1,(vW a).2.2.2⟩ _ _
theorem JZ {x y:VT} (h:ltOf mQ x y=true):So.cT x.1 y.1<0:=of_decide_eq_true h
theorem Bc {x y:VT} (h:ltOf mQ x y=false):0≤So.cT x.1 y.1:=by have:¬ So.cT x.1 y.1<0:=of_decide_eq_false h;omega
theorem J2 {x y:VT} (h:0≤So.cT x.1 y.1):ltOf mQ x y=false:=decide_eq_false (by show ¬ So.cT x.1 y.1<0;omega)
theorem Q8:Go.Sort.SWO (ltOf mQ) where
 irrefl x:=J2 (by
  have:=So.gB.self x.1
  omega)
 trans x y z h1 h2:=decide_eq_true (So.gB.lt (JZ h1) (JZ h2))
 ntrans x y z h1 h2:=J2 (by
  have b1:=Bc h1
  have b2:=Bc h2
  have a1:=So.gB.neg x.1 y.1
  have a2:=So.gB.neg y.1 z.1
  have a3:=So.gB.neg x.1 z.1
  have:=So.gB.trans z.1 y.1 x.1 ay ay
  omega)
theorem abW (blk n:Nat) (w:World):CmpLays prog 107 #[] lU 3 mQ blk 0 n w:=by intro m os dk hdk x y;obtain ⟨hx1,hx2,_⟩:=vW x;obtain ⟨hy1,hy2,_⟩:=vW y;have:=abV (x.1.1:Nat) (y.1.1:Nat) x.1.2.1 x.1.2.2 y.1.2.1 y.1.2.2 (sortWorldK lU 3 w blk 0 m dk os) hx1 hx2 hy1 hy2;refine this.mono ?_;rintro e w' ⟨rfl,h1,h2⟩;exact ⟨by rw [Fq,Fq];rfl,Jz h1 h2⟩
theorem abX {w:World} {blk off n k:Nat} {d:Array VT} {os:Array Obj} (hk:k<w.heap.size) (hne:k≠blk):(sortWorldK lU 3 w blk off n d os).heap[k]?=w.heap[k]?:=by unfold sortWorldK;rw [Go.Sort.heap_grow_old _ _ (by show k<(putRow id (Go.Sort.ahead w n) blk off _).heap.size;simp [putRow,mapBlock,Go.Sort.ahead];exact hk)];show (putRow id (Go.Sort.ahead w n) blk off _).heap[k]?=_;simp only [putRow,mapBlock,Array.getElem?_modify];rw [if_neg (fun e=>hne e.symm)];rfl
structure Off (b:Nat) (w w':World):Prop where
 os:w'.os=w.os
 tape:w'.tape=w.tape
 output:w'.output=w.output
 size:w.heap.size≤w'.heap.size
 block:∀ k,k<w.heap.size→k≠b→w'.heap[k]?=w.heap[k]?
theorem Off.refl (b:Nat) (w:World):Off b w w:=⟨rfl,rfl,rfl,Nat.le_refl _,fun _ _ _=>rfl⟩
theorem Off.trans {b:Nat} {u v w:World} (h:Off b u v) (k:Off b v w):Off b u w:=
 ⟨k.os.trans h.os,k.tape.trans h.tape,k.output.trans h.output,Nat.le_trans h.size k.size,fun i hi hne=>(k.block i (Nat.lt_of_lt_of_le hi h.size) hne).trans (h.block i hi hne)⟩
theorem Off.below {b B:Nat} {w0 w w':World} (h:Below B w0 w) (k:Off b w w') (hB:B≤b) (hw:B≤w.heap.size):Below B w0 w':=
 h.trans ⟨k.os,k.tape,k.output,k.size,fun i hi=>k.block i ay ay⟩
theorem Off.drewN {b:Nat} {w w':World} (h:Off b w w') (n:Nat):Off b w (w'.drewN n):=⟨h.os,h.tape,h.output,h.size,h.block⟩
theorem Off.setCell {b o:Nat} {w w':World} (h:Off b w w') (u:Value):Off b w (w'.setCell ⟨b,o,none⟩ u):=
 h.trans ⟨rfl,rfl,rfl,by simp [World.setCell],fun k hk hne=>Below.heap_setCell _ _ _ _ hne⟩
theorem Off.alloc {b:Nat} {w w':World} (h:Off b w w') (o:Obj):Off b w (w'.alloc o):=
 h.trans ⟨rfl,rfl,rfl,aH,fun k hk _=>Below.heap_alloc _ _ _ hk⟩
theorem abY (w:World) (blk n:Nat) (d:Array VT) (os:Array Obj):Off blk w (sortWorldK lU 3 w blk 0 n d os):=
 ⟨rfl,rfl,rfl,size_sortWorldK_c lU 3 w blk 0 n d os,fun k hk hne=>abX hk hne⟩
theorem abZ (blk cap:Nat) (d:Array VT) (w:World) (hl:d.size≤1000000) (hH:HoldsK lU 3 w blk 0 d) (hblk:blk<w.heap.size) :
  Calls prog 106 #[.slice (some ⟨blk,0,none⟩) d.size cap,.func (.func 107) #[] #[]] w fun e w'=>e=.returned (.tuple #[])∧∃ d':Array VT,d'.size=d.size∧d'.toList.Perm d.toList∧(d'.toList.map (·.1)).Pairwise (fun a b=>So.cT a b≤0)∧HoldsK lU 3 w' blk 0 d'∧Off blk w w':=by
 have h:=AnyQ.slices_SortFunc_total Tryz.sortTerms 3 isAgg63 sizeOf63 lU (fun _=>rfl) (fun x v hv=>uh x.1 v hv) mQ Q8 107 #[] blk 0 cap d w (enters_of func107 aF rfl) (abW blk d.size w) hH hblk ay (fun x y h1 h2=>by have b1:=Bc h1;have b2:=Bc h2;have:=So.gB.neg x.1 y.1;exact Subtype.ext (So.gB.zero _ _ x.2 y.2 ay));change Calls prog 106 _ _ _ at h;refine h.mono ?_;rintro e w' ⟨rfl,n,os,rfl⟩;have hp:=List.mergeSort_perm d.toList (fun x y=>!(ltOf mQ) y x);have hs:(d.toList.mergeSort fun x y=>!(ltOf mQ) y x).toArray.size=d.size:=aH;refine ⟨rfl,_,hs,hp,?_,holdsK_sortWorldK_c lU 3 w blk 0 d _ n os hH hblk hs,abY _ _ _ _ _⟩;rw [List.pairwise_map];refine List.Pairwise.imp (fun {a b} h=>?_) (List.pairwise_mergeSort (le:=fun x y=>!(ltOf mQ) y x) (fun a b c h1 h2=>?_) (fun a b=>?_) d.toList);{have hb:=Bc (by simpa using h:ltOf mQ b a=false);have:=So.gB.neg a.1 b.1;omega};{exact by have a1:ltOf mQ b a=false:=(by simpa using h1);have a2:ltOf mQ c b=false:=(by simpa using h2);simpa using Q8.ntrans c b a a2 a1}
 · cases h1:ltOf mQ b a with
   | false=>simp [h1]
   | true=>have b1:=JZ h1;have:=So.gB.neg a.1 b.1;have h2:ltOf mQ a b=false:=J2 ay;simp [h2]
theorem ab0:63<prog.types.size:=of_decide_eq_true aF
theorem ab1:(match prog.underlying 63 with | some (.array _ _) | some (.struct _)=>true | _=>false)=true:=aF
theorem Fu:Maps.Keyed prog 63:=Maps.Keyed.of_law (deep_law_laid Qi (m:=4) ay ab0 aF ab1)
theorem ab2:prog.keyType 63=true:=aF
def uj (a:T3):Lit:=.string (keyBytes [.int .i64 (a.1:Nat),.string a.2.1,.string a.2.2])
theorem ab3 (k:Int) (t x:List UInt8) (hk:(Lit.int .i64 k).wf=true) (ht:t.length≤maxLen) (hx:x.length≤maxLen) :
  keyOf prog 63 (dV k t x)=some (.string (keyBytes [.int .i64 k,.string t,.string x])):=by
 obtain ⟨d,hd⟩:∃ d,prog.types.size+1=d+2:=⟨prog.types.size-1,by have:3≤prog.types.size:=of_decide_eq_true aF;omega⟩;have e:=EA d k t x hk ht hx;have hf:(dV k t x).formed prog 63=true:=by have c4:=Ji;have u:=underlying63;simp [Value.formed,u,c4]
 have u:=underlying63;unfold keyOf;rw [u];simp only;rw [ab2,hf,hd];have ec:(dV k t x).cells.toList=[.int .i64 k,aA t,aA x]:=by simp [Value.cells]
 rw [ec,e];rfl
def pQ (a:T3):Prop:=a.1≤5∧a.2.1.length≤100000000∧a.2.2.length≤100000000
theorem Bd {a:T3} (h:pQ a):keyOf prog 63 (vV a)=some (uj a):=
 ab3 _ _ _ (EC h.1) (by have:=h.2.1;unfold maxLen;omega) (by have:=h.2.2;unfold maxLen;omega)
theorem ab4 {a b:T3} (ha:pQ a) (hb:pQ b) (h:uj a=uj b):a=b:=by have e:=Fu.inj (Bd ha) (h ▸ Bd hb);obtain ⟨a1,a2,a3⟩:=a;obtain ⟨b1,b2,b3⟩:=b;simp only [Value.agg.injEq,Array.mk.injEq,List.cons.injEq,Value.int.injEq,true_and,and_true,Int.natCast_inj] at e;obtain ⟨e1,e2,e3⟩:=e;rw [e1,str_inj e2,str_inj e3]
theorem ab5 {a:T3} (h:So.dH a):pQ a:=by
 have h1:=Tm.iV h;obtain ⟨n,hn,h2,h3⟩:=Tm.iD h;have:a.1=n:=by exact_mod_cast hn
 exact ⟨ay,ay,ay⟩
def kU (E:List T3) (i:Nat):DataW Unit:=(E.take i).zipIdx.foldl (fun D p=>D.put (uj p.1) (.lit (.int .i64 ((p.2+1:Nat):Int)))) (.map [])
theorem J3 (E:List T3) (i:Nat) (h:i<E.length):kU E (i+1)=(kU E i).put (uj E[i]) (.lit (.int .i64 ((i+1:Nat):Int))):=by
 unfold kU;rw [List.take_succ_eq_append_getElem h,List.zipIdx_append,List.foldl_append];have:(E.take i).length=i:=by rw [List.length_take];omega
 simp [this]
theorem Q9 (E:List T3):∀ i,i≤E.length→Maps.IsMap (kU E i)
 | 0,_=>⟨[],rfl⟩
 | i+1,h=>by rw [J3 E i ay];exact (Q9 E i ay).put _ _
theorem Q_ {E:List T3} (hn:E.Nodup) (hE:∀ a∈E,pQ a) {t:T3} (ht:pQ t):∀ i,i≤E.length →
  (kU E i).atKey (uj t) (.lit (.int .i64 0))=.lit (.int .i64 ((if t∈E.take i then So.num E t else 0:Nat):Int))
 | 0,_=>rfl
 | i+1,h=>by
  have ih:=Q_ hn hE ht i ay
  have hi:i<E.length:=ay
  rw [J3 E i hi,List.take_succ_eq_append_getElem hi]
  by_cases e:t=E[i]
  · have hk:WideAt.IsKeyLit (uj t):=Fu.key (Bd ht)
    rw [←e,Maps.atKey_put_same (Q9 E i ay) hk,if_pos aH,e,So.JO hn hi]
  · rw [Maps.atKey_put_other (fun h2=>e (ab4 ht (hE _ (List.getElem_mem hi)) h2)),ih]
    simp only [List.mem_append,List.mem_singleton,e,or_false]
theorem ab6 {E:List T3} (hn:E.Nodup) (hE:∀ a∈E,pQ a) {t:T3} (ht:pQ t):(kU E E.length).atKey (uj t) (.lit (.int .i64 0))=.lit (.int .i64 (So.num E t:Nat)):=by rw [Q_ hn hE ht _ aG,List.take_length];by_cases h:t∈E;{rw [if_pos h]};{rw [if_neg h,So.A_ h]}
end Go.Proofs.YtockbaekcbeenaaGreatDoor
