/-GSo1-/
import Derived.Test.YtjaebndajhppgaaGreatDoorMfHd1
import Derived.WalkKit
import Derived.Test.YtjaebndajhppgaaGreatDoorMfGTri
import Derived.Test.YtjaebndajhppgaaGreatDoorMfGRg5
import Derived.Test.YtjaebndajhppgaaGreatDoorMfGTm3
import Derived.Test.YtjaebndajhppgaaGreatDoorMfLayG
import Derived.Maps.OwnOps
set_option linter.unusedVariables false
set_option linter.unusedSectionVars false
set_option linter.unusedSimpArgs false
set_option maxRecDepth 100000
set_option maxHeartbeats 2000000
namespace Go.Proofs.YtjaebndajhppgaaGreatDoor.So
variable {α:Type} [DecidableEq α]
structure Ord (cf:α→α→Int) (V:α→Prop):Prop where
 neg:∀ a b,cf b a = - cf a b
 trans:∀ a b c,cf a b≤0→cf b c≤0→cf a c≤0
 zero:∀ a b,V a→V b→cf a b=0→a=b
variable {cf:α→α→Int} {V:α→Prop}
theorem Ord.lt (h:Ord cf V) {p q r:α} (h1:cf p q<0) (h2:cf q r<0):cf p r<0:=by have h0:=h.trans p q r (Int.le_of_lt h1) (Int.le_of_lt h2);rcases Int.lt_or_eq_of_le h0 with h3 | h3;{exact h3};{exfalso;have h4:cf r p≤0:=(by rw [h.neg p r,h3];decide);have h5:=h.trans q r p (Int.le_of_lt h2) h4;have:=h.neg p q;omega}
theorem Ord.self (h:Ord cf V) (a:α):cf a a=0:=by have:=h.neg a a;omega
def dR (cf:α→α→Int) (l:List α):Prop:=l.Pairwise fun a b=>cf a b<0
theorem yR (hO:Ord cf V):∀ {l m:List α},dR cf l→dR cf m→(∀ t,t∈l↔t∈m)→l=m
 | [],[],_,_,_=>rfl
 | [],b::m,_,_,h=>absurd ((h b).2 aI) aI
 | a::l,[],_,_,h=>absurd ((h a).1 aI) aI
 | a::l,b::m,hl,hm,h=>by
  obtain ⟨h1,h2⟩:=List.pairwise_cons.1 hl
  obtain ⟨k1,k2⟩:=List.pairwise_cons.1 hm
  have hself:∀ t,¬ cf t t<0:=fun t ht=>by have:=hO.self t;omega
  have e:a=b:=by
   have ha:=(h a).1 aI
   have hb:=(h b).2 aI
   rcases List.mem_cons.1 ha with e | ha
   · exact e
   · rcases List.mem_cons.1 hb with e | hb
     · exact e.symm
     · exact absurd (hO.lt (k1 a ha) (h1 b hb)) (hself b)
  subst e
  rw [yR hO h2 k2 fun t=>?_]
  constructor
  · intro ht
    rcases List.mem_cons.1 ((h t).1 (by simp [ht])) with rfl | h3
    · exact absurd (h1 t ht) (hself t)
    · exact h3
  · intro ht
    rcases List.mem_cons.1 ((h t).2 (by simp [ht])) with rfl | h3
    · exact absurd (k1 t ht) (hself t)
    · exact h3
def put (cf:α→α→Int) (l:List α) (t:α):List α:=if (l.dropWhile fun a=>decide (cf a t<0)).head?=some t then l else (l.takeWhile fun a=>decide (cf a t<0))++t::l.dropWhile fun a=>decide (cf a t<0)
theorem put_mem (l:List α) (t x:α):x∈put cf l t↔x∈l∨x=t:=by
 have e:=List.takeWhile_append_dropWhile (p:=fun a=>decide (cf a t<0)) (l:=l);unfold put;split;{rename_i h;constructor;{exact .inl};{rintro (h1 | rfl);{exact h1};{rw [←e];have:=List.mem_of_mem_head? (Option.mem_def.2 h);exact List.mem_append_right _ this}}}
 · conv=>rhs;rw [←e]
   simp only [List.mem_append,List.mem_cons];constructor;{rintro (h1 | h1 | h1);{exact .inl (.inl h1)};{exact .inr h1};{exact .inl (.inr h1)}};{rintro ((h1 | h1) | h1);{exact .inl h1};{exact .inr (.inr h1)};{exact .inr (.inl h1)}}
theorem Gv (hO:Ord cf V) {l:List α} {t:α} (hl:dR cf l) (hv:∀ a∈l,V a) (ht:V t):dR cf (put cf l t):=by
 have e:=List.takeWhile_append_dropWhile (p:=fun a=>decide (cf a t<0)) (l:=l);unfold put;split;{exact hl}
 · rename_i h;have hp:dR cf (l.takeWhile (fun a=>decide (cf a t<0))++l.dropWhile (fun a=>decide (cf a t<0))):=(by rw [e];exact hl);obtain ⟨p1,p2,p3⟩:=List.pairwise_append.1 hp;have hlo:∀ a∈l.takeWhile (fun a=>decide (cf a t<0)),cf a t<0:=fun a ha=>(by have h1:(l.takeWhile (fun a=>decide (cf a t<0))).all (fun a=>decide (cf a t<0))=true:=List.all_takeWhile;simpa using List.all_eq_true.1 h1 a ha);have hhi:∀ b∈l.dropWhile (fun a=>decide (cf a t<0)),cf t b<0:=by
    obtain ⟨d,hd⟩:=aB (l.dropWhile (fun a=>decide (cf a t<0)));rw [←hd] at h p2 p3 ⊢;cases d with
    | nil=>intro b hb;cases hb
    | cons c d=>have hc:¬ cf c t<0:=(by have:=List.head?_dropWhile_not (fun a=>decide (cf a t<0)) l;rw [←hd] at this;simpa using this);have hcm:c∈l:=(by rw [←e,←hd];simp);have hne:c≠t:=fun e=>h (by rw [e];rfl);have h0:cf c t≠0:=fun h0=>hne (hO.zero _ _ (hv c hcm) ht h0);have hn:=hO.neg c t;have hct:cf t c<0:=ak;intro b hb;rcases List.mem_cons.1 hb with rfl | hb;{exact hct};{exact hO.lt hct ((List.pairwise_cons.1 p2).1 b hb)}
   refine List.pairwise_append.2 ⟨p1,List.pairwise_cons.2 ⟨hhi,p2⟩,fun a ha b hb=>?_⟩;rcases List.mem_cons.1 hb with rfl | hb;{exact hlo a ha};{exact p3 a ha b hb}
theorem uq (hO:Ord cf V):∀ (l a:List α),dR cf a→(∀ t∈a,V t)→(∀ t∈l,V t)→dR cf (l.foldl (put cf) a)∧∀ x,x∈l.foldl (put cf) a↔x∈a∨x∈l
 | [],a,hs,_,_=>⟨hs,fun x=>aI⟩
 | t::l,a,hs,ha,hl=>by
  obtain ⟨h1,h2⟩:=uq hO l (put cf a t) (Gv hO hs ha (hl t aI)) (fun x hx=>by
   rcases (put_mem a t x).1 hx with h | rfl
   · exact ha x h
   · exact hl x aI) (fun x hx=>hl x (by simp [hx]))
  refine ⟨h1,fun x=>?_⟩
  rw [List.foldl_cons,h2 x,put_mem,List.mem_cons]
  constructor
  · rintro ((h | h) | h)
    · exact .inl h
    · exact .inr (.inl h)
    · exact .inr (.inr h)
  · rintro (h | h | h)
    · exact .inl (.inl h)
    · exact .inl (.inr h)
    · exact .inr h
theorem yU (l:List α) (t:α):(put cf l t).length≤l.length+1:=by have e:=congrArg List.length (List.takeWhile_append_dropWhile (p:=fun a=>decide (cf a t<0)) (l:=l));unfold put;split;{omega};{simp only [List.length_append,List.length_cons] at *;omega}
theorem yV:∀ (l a:List α),(l.foldl (put cf) a).length≤a.length+l.length
 | [],a=>aI
 | t::l,a=>by
  have:=yV l (put cf a t)
  have h:=yU (cf:=cf) a t
  rw [List.foldl_cons,List.length_cons];omega
def all (cf:α→α→Int) (l:List α):List α:=l.foldl (put cf) []
theorem QA (hO:Ord cf V) {l:List α} (hl:∀ t∈l,V t):dR cf (all cf l):=(uq hO l [] List.Pairwise.nil aI hl).1
theorem Ib (hO:Ord cf V) {l:List α} (hl:∀ t∈l,V t) (x:α):x∈all cf l↔x∈l:=by have:=(uq hO l [] List.Pairwise.nil aI hl).2 x;unfold all;simpa using this
theorem QB (l:List α):(all cf l).length≤l.length:=by have:=yV (cf:=cf) l [];simpa [all] using this
theorem all_eq (hO:Ord cf V) {l m:List α} (hl:∀ t∈l,V t) (hm:dR cf m) (h:∀ t,t∈m↔t∈l):m=all cf l:=
 yR hO hm (QA hO hl) fun t=>by rw [h,Ib hO hl]
theorem Ic (hO:Ord cf V) {l:List α} (h:dR cf l):l.Nodup:=List.Pairwise.imp (fun {a b} hab e=>by subst e;have:=hO.self a;omega) h
theorem D_ (hO:Ord cf V) {l:List α} (h:dR cf l) {i j:Nat} (hi:i<l.length) (hj:j<l.length):cf l[i] l[j]<0↔i<j:=by constructor;{intro hc;rcases Nat.lt_trichotomy i j with h1 | h1 | h1;{exact h1};{subst h1;have:=hO.self l[i];omega};{have:=List.pairwise_iff_getElem.1 h j i hj hi h1;have:=hO.neg l[i] l[j];omega}};{exact List.pairwise_iff_getElem.1 h i j hi hj}
def num (E:List α) (t:α):Nat:=if t∈E then E.findIdx (fun a=>decide (a=t))+1 else 0
theorem zG {E:List α} {t:α} (h:¬ t∈E):num E t=0:=if_neg h
theorem qE {E:List α} {t:α} (h:t∈E):∃ i,∃ h:i<E.length,num E t=i+1∧E[i]=t:=by have hl:E.findIdx (fun a=>decide (a=t))<E.length:=List.findIdx_lt_length_of_exists ⟨t,h,aI⟩;refine ⟨_,hl,if_pos h,?_⟩;have:=List.findIdx_getElem (p:=fun a=>decide (a=t)) (w:=hl);simpa using this
theorem Ie {E:List α} (hn:E.Nodup) {i:Nat} (hi:i<E.length):num E E[i]=i+1:=by obtain ⟨j,hj,h1,h2⟩:=qE (List.getElem_mem hi);have e:j=i:=(List.getElem_inj hn).1 h2;rw [h1,e]
theorem wK {E:List α} (t:α):num E t≤E.length:=by by_cases h:t∈E;{obtain ⟨i,hi,h1,_⟩:=qE h;omega};{rw [zG h];exact Nat.zero_le _}
theorem Ig {E:List α} {t:α}:0<num E t↔t∈E:=by by_cases h:t∈E;{obtain ⟨i,hi,h1,_⟩:=qE h;exact ⟨fun _=>h,fun _=>ak⟩};{rw [zG h];exact ⟨fun h=>absurd h ak,fun h2=>absurd h2 h⟩}
theorem zk (hO:Ord cf V) {E:List α} (h:dR cf E) {a b:α} (ha:a∈E) (hb:b∈E):cf a b<0↔num E a<num E b:=by obtain ⟨i,hi,h1,rfl⟩:=qE ha;obtain ⟨j,hj,h2,rfl⟩:=qE hb;rw [h1,h2,D_ hO h];omega
def cp (l:List α):Nat→List α
 | 0=>[]
 | m+1=>cp l m++if 0<m∧l[m]?=l[m-1]? then [] else l[m]?.toList
theorem QC (l:List α):∀ m,(cp l m).length≤m
 | 0=>by simp [cp]
 | m+1=>by
  have:=QC l m
  rw [cp,List.length_append]
  split
  · simp only [List.length_nil];omega
  · cases l[m]? <;> simp <;> omega
theorem Ea {l:List α} {m:Nat} (h:m<l.length) (hne:m=0∨l[m]?≠l[m-1]?):cp l (m+1)=cp l m++[l[m]]:=by
 rw [cp,if_neg (by
  rcases hne with rfl | h2;{simp}
  · exact fun h=>h2 h.2),List.getElem?_eq_getElem h];rfl
theorem Ih {l:List α} {m:Nat} (hm:0<m) (h:l[m]?=l[m-1]?):cp l (m+1)=cp l m:=by rw [cp,if_pos ⟨hm,h⟩,List.append_nil]
theorem Ii {l:List α}:∀ (m:Nat),m≤l.length→(∀ i,0<i→i<m→l[i]?≠l[i-1]?)→cp l m=l.take m
 | 0,_,_=>by simp [cp]
 | m+1,h,hd=>by
  rw [Ea ak (by
   rcases Nat.eq_zero_or_pos m with h0 | h0
   · exact .inl h0
   · exact .inr (hd m h0 ak)),Ii m ak fun i h1 h2=>hd i h1 ak]
  rw [List.take_succ_eq_append_getElem ak]
theorem Ij {l:List α}:∀ (m:Nat),m≤l.length→∀ x,x∈cp l m↔∃ i,i<m∧l[i]?=some x
 | 0,_,x=>by simp [cp]
 | m+1,h,x=>by
  have ih:=Ij (l:=l) m ak x
  have hg:l[m]?=some l[m]:=List.getElem?_eq_getElem ak
  by_cases ho:0<m∧l[m]?=l[m-1]?
  · rw [Ih ho.1 ho.2,ih]
    constructor
    · rintro ⟨i,h1,h2⟩;exact ⟨i,ak,h2⟩
    · rintro ⟨i,h1,h2⟩
      by_cases he:i=m
      · subst he;exact ⟨i-1,ak,by rw [←ho.2];exact h2⟩
      · exact ⟨i,ak,h2⟩
  · rw [Ea ak (by
     rcases Nat.eq_zero_or_pos m with h0 | h0
     · exact .inl h0
     · exact .inr fun h=>ho ⟨h0,h⟩),List.mem_append,ih,List.mem_singleton]
    constructor
    · rintro (⟨i,h1,h2⟩ | rfl)
      · exact ⟨i,ak,h2⟩
      · exact ⟨m,ak,hg⟩
    · rintro ⟨i,h1,h2⟩
      by_cases he:i=m
      · subst he;rw [hg] at h2;exact .inr (Option.some.inj h2).symm
      · exact .inl ⟨i,ak,h2⟩
theorem QD (hO:Ord cf V) {l:List α} (hs:l.Pairwise fun a b=>cf a b≤0) (hV:∀ a∈l,V a):∀ (m:Nat),m≤l.length→dR cf (cp l m)
 | 0,_=>by simp [cp,dR]
 | m+1,h=>by
  have ih:=QD hO hs hV m ak
  by_cases ho:0<m∧l[m]?=l[m-1]?
  · rw [Ih ho.1 ho.2];exact ih
  · rw [Ea ak (by
     rcases Nat.eq_zero_or_pos m with h0 | h0
     · exact .inl h0
     · exact .inr fun h=>ho ⟨h0,h⟩)]
    refine List.pairwise_append.2 ⟨ih,List.pairwise_singleton _ _,fun a ha b hb=>?_⟩
    rw [List.mem_singleton.1 hb]
    obtain ⟨i,hi,h2⟩:=(Ij m ak a).1 ha
    have hil:i<l.length:=ak
    rw [List.getElem?_eq_getElem hil] at h2
    have e:=Option.some.inj h2
    subst e
    have hle:=List.pairwise_iff_getElem.1 hs i m hil ak hi
    rcases Int.lt_or_eq_of_le hle with h3 | h3
    · exact h3
    · exfalso
      have e:=hO.zero _ _ (hV _ (List.getElem_mem hil)) (hV _ (List.getElem_mem (by omega:m<l.length))) h3
      have hne:l[m]≠l[m-1]:=fun e2=>ho ⟨ak,by rw [List.getElem?_eq_getElem ak,List.getElem?_eq_getElem ak,e2]⟩
      have h4:cf l[i] l[m-1]≤0:=by
       rcases Nat.lt_or_ge i (m-1) with h5 | h5
       · exact List.pairwise_iff_getElem.1 hs i (m-1) hil ak h5
       · have:i=m-1:=ak
         subst this
         have:=hO.self l[m-1];omega
      have h5:=List.pairwise_iff_getElem.1 hs (m-1) m ak ak ak
      rw [e] at h4
      have h6:=hO.neg l[m-1] l[m]
      exact hne (hO.zero _ _ (hV _ (List.getElem_mem _)) (hV _ (List.getElem_mem _)) ak)
theorem acf (hO:Ord cf V) {l m:List α} (hs:m.Pairwise fun a b=>cf a b≤0) (hV:∀ a∈l,V a) (hp:m.Perm l):cp m m.length=all cf l:=by have hVm:∀ a∈m,V a:=fun a ha=>hV a (hp.mem_iff.1 ha);refine all_eq hO hV (QD hO hs hVm _ aF) fun t=>?_;rw [Ij _ aF,←hp.mem_iff,List.mem_iff_getElem?];constructor;{rintro ⟨i,_,h⟩;exact ⟨i,h⟩};{rintro ⟨i,h⟩;refine ⟨i,?_,h⟩;rcases Nat.lt_or_ge i m.length with h1 | h1;{exact h1};{rw [List.getElem?_eq_none h1] at h;cases h}}
abbrev T3:=Tm.T3
abbrev TT:=Tm.TT
def sh (a:T3):Tm.T:=Tm.aS a.1 a.2.1 a.2.2
def cT (a b:T3):Int:=Tm.cmp (sh a) (sh b)
def dD (a:T3):Prop:=Tm.dD a=true
theorem QE {a b:T3} (ha:dD a) (hb:dD b) (h:sh a=sh b):a=b:=by obtain ⟨n,t,x⟩:=a;obtain ⟨m,u,y⟩:=b;obtain ⟨e1,e2,e3⟩:=(Tm.CQ ha hb).1 h;exact Prod.ext e1 (Prod.ext e2 e3)
theorem fM:Ord cT dD where
 neg a b:=Tm.jo _ _
 trans a b c h1 h2:=Tm.yg h1 h2
 zero a b ha hb h:=QE ha hb (Tm.mQ.1 h)
def flat (l:List TT):List T3:=l.flatMap fun p=>[p.1,p.2.1,p.2.2]
theorem acg (l:List TT) (p:TT):flat (l++[p])=flat l++[p.1,p.2.1,p.2.2]:=by simp [flat]
theorem wL:∀ (l:List TT),(flat l).length=3*l.length
 | []=>rfl
 | p::l=>by
  have:=wL l
  show ([p.1,p.2.1,p.2.2]++flat l).length=_
  simp only [List.length_append,List.length_cons,List.length_nil,this];omega
theorem Eb {l:List TT} {t:T3}:t∈flat l↔∃ p∈l,t=p.1∨t=p.2.1∨t=p.2.2:=by simp [flat]
theorem zH {p:TT} (h:Tm.aZ p=true):dD p.1∧dD p.2.1∧dD p.2.2:=by obtain ⟨_,_,h1,h2,h3⟩:=Tm.qp h;exact ⟨h1,h2,h3⟩
theorem zI {l:List TT} (h:∀ p∈l,Tm.aZ p=true):∀ t∈flat l,dD t:=fun t ht=>by obtain ⟨p,hp,h2⟩:=Eb.1 ht;obtain ⟨a,b,c⟩:=zH (h p hp);rcases h2 with rfl | rfl | rfl;{exact a};{exact b};{exact c}
def terms (l:List TT):List T3:=all cT (flat l)
theorem wN {l:List TT} (h:∀ p∈l,Tm.aZ p=true):dR cT (terms l):=QA fM (zI h)
theorem Ec {l:List TT} (h:∀ p∈l,Tm.aZ p=true) (t:T3):t∈terms l↔t∈flat l:=Ib fM (zI h) t
theorem qF {l:List TT} (h:∀ p∈l,Tm.aZ p=true):∀ t∈terms l,dD t:=fun t ht=>zI h t ((Ec h t).1 ht)
theorem nA (l:List TT):(terms l).length≤3*l.length:=by rw [←wL];exact QB _
theorem wO {l:List TT} (h:∀ p∈l,Tm.aZ p=true) {p:TT} (hp:p∈l):p.1∈terms l∧p.2.1∈terms l∧p.2.2∈terms l:=
 ⟨(Ec h _).2 (Eb.2 ⟨p,hp,.inl rfl⟩),(Ec h _).2 (Eb.2 ⟨p,hp,.inr (.inl rfl)⟩),(Ec h _).2 (Eb.2 ⟨p,hp,.inr (.inr rfl)⟩)⟩
def nums (E:List T3) (p:TT):Rg.T:=((num E p.1:Nat),(num E p.2.1:Nat),(num E p.2.2:Nat))
def ids (l:List TT):List Rg.T:=l.map (nums (terms l))
theorem gK (l:List TT):(ids l).length=l.length:=List.length_map ..
theorem ach {E:List T3} (hE:dR cT E) {p q:TT} (h1:p.1∈E) (h2:p.2.1∈E) (h3:p.2.2∈E) (k1:q.1∈E) (k2:q.2.1∈E) (k3:q.2.2∈E) (hp:Tm.aZ p=true) (hq:Tm.aZ q=true) (h:Tm.bQ p q<0):Rg.lt (nums E p) (nums E q):=by
 obtain ⟨p1,p2,p3⟩:=zH hp;obtain ⟨q1,q2,q3⟩:=zH hq;have e:Tm.bQ p q=if cT p.1 q.1=0 then (if cT p.2.1 q.2.1=0 then cT p.2.2 q.2.2 else cT p.2.1 q.2.1) else cT p.1 q.1:=rfl
 rw [e] at h;by_cases a:cT p.1 q.1=0;{rw [if_pos a] at h;have ea:=fM.zero _ _ p1 q1 a;by_cases b:cT p.2.1 q.2.1=0;{rw [if_pos b] at h;have eb:=fM.zero _ _ p2 q2 b;have:=(zk fM hE h3 k3).1 h;refine .inr ⟨?_,.inr ⟨?_,?_⟩⟩;{show ((num E p.1:Nat):Int)=(num E q.1:Nat);rw [ea]};{show ((num E p.2.1:Nat):Int)=(num E q.2.1:Nat);rw [eb]};{show ((num E p.2.2:Nat):Int)<(num E q.2.2:Nat);omega}};{rw [if_neg b] at h;have:=(zk fM hE h2 k2).1 h;refine .inr ⟨?_,.inl ?_⟩;{show ((num E p.1:Nat):Int)=(num E q.1:Nat);rw [ea]};{show ((num E p.2.1:Nat):Int)<(num E q.2.1:Nat);omega}}};{rw [if_neg a] at h;have:=(zk fM hE h1 k1).1 h;refine .inl ?_;show ((num E p.1:Nat):Int)<(num E q.1:Nat);omega}
theorem aci {l:List TT} (h:∀ p∈l,Tm.aZ p=true) (hs:Tm.dR l) (hl:l.length≤100):wI (ids l):=by have hE:=wN h;have hT:=fun p (hp:p∈l)=>wO h hp;refine ⟨?_,?_,by rw [gK];exact hl⟩;{unfold ids;rw [List.pairwise_map];refine List.Pairwise.imp_of_mem (fun {p q} hp hq hc=>?_) hs;obtain ⟨a1,a2,a3⟩:=hT p hp;obtain ⟨b1,b2,b3⟩:=hT q hq;exact ach hE a1 a2 a3 b1 b2 b3 (h p hp) (h q hq) hc};{intro t ht;obtain ⟨p,hp,rfl⟩:=List.mem_map.1 ht;obtain ⟨a1,a2,a3⟩:=hT p hp;have hb:=nA l;have c1:=Ig.2 a1;have c2:=Ig.2 a2;have c3:=Ig.2 a3;have d1:=wK (E:=terms l) p.1;have d2:=wK (E:=terms l) p.2.1;have d3:=wK (E:=terms l) p.2.2;intro c hc;rcases Rg.c3 hc with rfl | rfl | rfl;{show 1≤((num (terms l) p.1:Nat):Int)∧((num (terms l) p.1:Nat):Int)≤1000;omega};{show 1≤((num (terms l) p.2.1:Nat):Int)∧((num (terms l) p.2.1:Nat):Int)≤1000;omega};{show 1≤((num (terms l) p.2.2:Nat):Int)∧((num (terms l) p.2.2:Nat):Int)≤1000;omega}}
end Go.Proofs.YtjaebndajhppgaaGreatDoor.So
namespace Go.Proofs.YtjaebndajhppgaaGreatDoor
open Go.Proofs.Tryz
open Go.ChangeShapes Go.WideShapes Go.ChangeAt Go.RowKit
theorem acj {a b:World} (h:a.drawn≤b.drawn):Dr a b:=⟨b.drawn-a.drawn,ak⟩
theorem acn (s:List UInt8) (W:World) (hs:s.length≤1000000000) :
  Calls prog 99 #[aA s] W fun e W'=>e=.returned (aA (34::(Tm.bV s++[34])))∧Below W.heap.size W W'∧Dr W W':=
 (MW s W hs).mono fun _ _ h=>⟨h.1,h.2.1,acj h.2.2⟩
theorem QF (W:World) (a b c:Value) (t:TypeId):∃ w2,w2=W.alloc (.cells #[a,b,c] t)∧(∀ p:dV w2,p.it.cell? ⟨W.heap.size,0,none⟩=some a)∧(∀ p:dV w2,p.it.cell? ⟨W.heap.size,1,none⟩=some b)∧(∀ p:dV w2,p.it.cell? ⟨W.heap.size,2,none⟩=some c)∧Hid (Below W.heap.size W w2)∧Hid (Dr W w2):=
 ⟨_,rfl,fun p=>(bE p.low).1,fun p=>(bE p.low).2.1,fun p=>(bE p.low).2.2.1,(Below.refl W.heap.size W).alloc aF _,(Dr.refl W).alloc _⟩
theorem Ik (k:Int) (t x:List UInt8) (W:World) (ht:t.length≤1000000000) (hx:x.length≤1000000000) :
  Calls prog 57 #[bG k t x] W fun e W'=>e=.returned (aA (Tm.show k t x))∧Below W.heap.size W W'∧Dr W W':=by have QU:=aj (fun W=>acn t W ht);have hle:=Tm.mR t;rcases (show k=1∨k=2∨k=3∨k=4∨k=5∨(k<1∨5<k) by omega) with h | h | h | h | h | h;{subst h;go_enter func57,ntmps57;go_wp2;go_ret;exact ⟨by simp [Tm.show,Tm.aS,fQ],(Below.refl _ _).alloc aF _,(Dr.refl W).alloc _⟩};{subst h;go_enter func57,ntmps57;go_wp2;go_ret;exact ⟨by simp [Tm.show,Tm.aS,fQ],(Below.refl _ _).alloc aF _,(Dr.refl W).alloc _⟩};{subst h;go_enter func57,ntmps57;(go_wp2_with (go_at_call 99;refine (QU.out _).mono ?_;rintro e w' ⟨rfl,hb,hd⟩));go_ret;exact ⟨by simp [Tm.show,Tm.aS,fQ],((Below.refl _ _).alloc aF _).trans (hb.mono aI),((Dr.refl W).alloc _).trans hd⟩};{subst h;go_enter func57,ntmps57;go_wp2;obtain ⟨w2,hw2,k0,k1,k2,HB,HD⟩:=QF W (.int .i64 4) (aA t) (aA x) 61;rw [←hw2];clear hw2;refine DT aG aG ?_;(repeat (go_big_quiet_step ((go_at_call 99;with_reducible exact dV.call (QU.out _)))));refine wpQuiet_nil ?_;rintro _ ⟨p,rfl⟩;have HP:=aj (aJ HB.out p.low);have HE:=aj (HD.out.trans p.dr);clear k0 k1 k2;go_wp2;go_ret;exact ⟨by simp [Tm.show,Tm.aS,fQ] <;> rfl,HP.out,HE.out⟩};{subst h;go_enter func57,ntmps57;go_wp2;obtain ⟨w2,hw2,k0,k1,k2,HB,HD⟩:=QF W (.int .i64 5) (aA t) (aA x) 61;rw [←hw2];clear hw2;refine DT aG aG ?_;(repeat (go_big_quiet_step ((go_at_call 99;with_reducible exact dV.call (QU.out _)))));refine wpQuiet_nil ?_;rintro _ ⟨p,rfl⟩;have HP:=aj (aJ HB.out p.low);have HE:=aj (HD.out.trans p.dr);clear k0 k1 k2;go_wp2;go_ret;exact ⟨by simp [Tm.show,Tm.aS,fQ] <;> rfl,HP.out,HE.out⟩};{have b1:(k==1)=false:=beq_eq_false_iff_ne.2 ak;have b2:(k==2)=false:=beq_eq_false_iff_ne.2 ak;have b3:(k==3)=false:=beq_eq_false_iff_ne.2 ak;have b4:(k==4)=false:=beq_eq_false_iff_ne.2 ak;have b5:(k==5)=false:=beq_eq_false_iff_ne.2 ak;have HS:=aj (Tm.M7 h t x);clear h;go_enter func57,ntmps57;go_wp2;go_ret;exact ⟨by rw [HS.out];rfl,(Below.refl _ _).alloc aF _,(Dr.refl W).alloc _⟩}
theorem aco (k k2:Int) (t x t2 x2:List UInt8) (W:World) (ht:t.length≤1000000000) (hx:x.length≤1000000000) (ht2:t2.length≤1000000000) (hx2:x2.length≤1000000000) :
  Calls prog 128 #[bG k t x,bG k2 t2 x2] W fun e W'=>e=.returned (.int .i64 (Tm.cmp (Tm.show k t x) (Tm.show k2 t2 x2)))∧Below W.heap.size W W'∧Dr W W':=by
 have S1:=aj (fun W=>Ik k t x W ht hx);have S2:=aj (fun W=>Ik k2 t2 x2 W ht2 hx2);obtain ⟨a,ha⟩:=aB (Tm.show k t x);obtain ⟨b,hb⟩:=aB (Tm.show k2 t2 x2);rw [←ha] at S1 ⊢;rw [←hb] at S2 ⊢;clear ha hb;go_enter func128,ntmps128;go_wp2;obtain ⟨w2,hw2⟩:=aB (((W.alloc (.cells #[.int .i64 k,aA t,aA x] 61)).alloc (.cells #[.int .i64 k2,aA t2,aA x2] 61)));have HB:=aj (show Below W.heap.size W w2 by rw [hw2];exact ((Below.refl W.heap.size W).alloc aF _).alloc aI _);have HD:=aj (show Dr W w2 by rw [hw2];exact ((Dr.refl W).alloc _).alloc _);have hb1:=((Below.refl (W.alloc (.cells #[.int .i64 k,aA t,aA x] 61)).heap.size (W.alloc (.cells #[.int .i64 k,aA t,aA x] 61))).alloc aF (.cells #[.int .i64 k2,aA t2,aA x2] 61));rw [←hw2] at hb1 ⊢;obtain ⟨c0,c1,c2,_⟩:=bE hb1;have d0:w2.cell? ⟨W.heap.size+1,0,none⟩=some (.int .i64 k2):=by have:=fD (W.alloc (.cells #[.int .i64 k,aA t,aA x] 61)) #[.int .i64 k2,aA t2,aA x2] 61 (0,0) 0;rw [←hw2] at this;simpa using this
 have d1:w2.cell? ⟨W.heap.size+1,1,none⟩=some (aA t2):=by have:=fD (W.alloc (.cells #[.int .i64 k,aA t,aA x] 61)) #[.int .i64 k2,aA t2,aA x2] 61 (0,0) 1;rw [←hw2] at this;simpa using this
 have d2:w2.cell? ⟨W.heap.size+1,2,none⟩=some (aA x2):=by have:=fD (W.alloc (.cells #[.int .i64 k,aA t,aA x] 61)) #[.int .i64 k2,aA t2,aA x2] 61 (0,0) 2;rw [←hw2] at this;simpa using this
 clear hw2 hb1;have yM:=fun p:dV w2=>p.keep c0;have yN:=fun p:dV w2=>p.keep c1;have yO:=fun p:dV w2=>p.keep c2;have Il:=fun p:dV w2=>p.keep d0;have Im:=fun p:dV w2=>p.keep d1;have Io:=fun p:dV w2=>p.keep d2;clear c0 c1 c2 d0 d1 d2;refine DT aG aG ?_;repeat (go_big_quiet_step (first
  | (go_at_call 75;exact dV.call ((M8 _ _ _).mono fun _ _ h=>⟨h.1,by rw [←h.2];exact Below.refl _ _,by rw [←h.2];exact Dr.refl _⟩))
  | (go_at_call 57;with_reducible exact dV.call (S1.out _))
  | (go_at_call 57;with_reducible exact dV.call (S2.out _))))
 refine wpQuiet_nil ?_;rintro _ ⟨p,rfl⟩;have HP:=aj (aJ HB.out p.low);have HE:=aj (HD.out.trans p.dr);clear yM yN yO Il Im Io;go_wp2;go_ret;exact ⟨rfl,HP.out,HE.out⟩
open Go.Sort
abbrev T3:=So.T3
def bU (a:T3):List Value:=[.int .i64 (a.1:Nat),aA a.2.1,aA a.2.2]
abbrev qG (a:T3):Value:=bG (a.1:Nat) a.2.1 a.2.2
theorem sj (a:T3):∀ u∈bU a,u.oneCell'=true:=by intro u hu;simp only [bU,List.mem_cons,List.not_mem_nil,or_false] at hu;rcases hu with rfl | rfl | rfl <;> rfl
theorem zJ (a:T3) (c:Nat) (hc:c<3):(bU a)[c]?=some (bU a)[c]!:=by rcases Rg.c3 hc with rfl | rfl | rfl <;> rfl
def bF (W:World) (v:Value) (E:List T3):Prop:=∃ (a:Option Addr) (cap:Nat),v=.slice a E.length cap∧E.length≤cap∧cap≤maxLen∧(a=none→cap=0) ∧
 (E.length=0∨∃ b off,a=some ⟨b,off,none⟩∧∀ i (h:i<E.length) c,c<3→W.cell? ⟨b,off+i*3+c,none⟩=(bU E[i])[c]?)
theorem bF.keep {W W':World} {v:Value} {E:List T3} (h:bF W v E) (hb:Below W.heap.size W W'):bF W' v E:=by obtain ⟨a,cap,h1,h2,h3,h4,h5⟩:=h;refine ⟨a,cap,h1,h2,h3,h4,?_⟩;rcases h5 with h5 | ⟨b,off,e,h5⟩;{exact Or.inl h5};{exact Or.inr ⟨b,off,e,fun i hi c hc=>by rw [zJ _ c hc];exact aD hb (by rw [←zJ _ c hc];exact h5 i hi c hc)⟩}
theorem bF.nil (W:World):bF W (.slice none 0 0) []:=⟨none,0,rfl,Nat.le_refl _,by unfold maxLen;omega,fun _=>rfl,Or.inl rfl⟩
theorem bF.open {W:World} {v:Value} {E:List T3} (h:bF W v E):∃ a cap,v=.slice a E.length cap∧E.length≤cap∧cap≤maxLen∧(a=none→cap=0):=by obtain ⟨a,cap,h1,h2,h3,h4,_⟩:=h;exact ⟨a,cap,h1,h2,h3,h4⟩
theorem bF.get {W:World} {a:Option Addr} {n cap:Nat} {E:List T3} (h:bF W (.slice a n cap) E) {i:Nat} (hi:i<E.length):∃ b off,a=some ⟨b,off,none⟩∧∀ i (h:i<E.length) c,c<3→W.cell? ⟨b,off+i*3+c,none⟩=(bU E[i])[c]?:=by obtain ⟨a',cap',e,h2,h3,h4,h5⟩:=h;simp only [Value.slice.injEq] at e;obtain ⟨rfl,rfl,rfl⟩:=e;rcases h5 with h5 | h5;{omega};{exact h5}
theorem bF.at {W:World} {b off n cap:Nat} {E:List T3} (h:bF W (.slice (some ⟨b,off,none⟩) n cap) E) {i:Nat} (hi:i<E.length) :
  W.cell? ⟨b,off+i*3,none⟩=some (.int .i64 (E[i].1:Nat))∧W.cell? ⟨b,off+i*3+1,none⟩=some (aA E[i].2.1)∧W.cell? ⟨b,off+i*3+2,none⟩=some (aA E[i].2.2):=by obtain ⟨b',off',e,h1⟩:=h.get hi;cases e;exact ⟨h1 i hi 0 ak,h1 i hi 1 ak,h1 i hi 2 ak⟩
abbrev VT:={a:T3 // So.dD a}
instance:Inhabited VT:=⟨⟨(1,[97],[]),by show Tm.dD (1,[97],[])=true;kernel_rfl⟩⟩
def ku (a:VT):List Value:=bU a.1
def lq (a b:VT):Int:=So.cT a.1 b.1
theorem qH (a:VT):a.1.2.1.length≤1000000000∧a.1.2.2.length≤1000000000∧1≤a.1.1∧a.1.1≤5:=by
 have h1:=Tm.gQ a.2;obtain ⟨n,hn,h2,h3⟩:=Tm.gZ a.2;have:a.1.1=n:=by exact_mod_cast hn
 exact ⟨ak,ak,ak,ak⟩
theorem zK (a:VT):Tm.show (a.1.1:Nat) a.1.2.1 a.1.2.2=So.sh a.1:=Tm.Cm ⟨(qH a).2.2.1,(qH a).2.2.2⟩ _ _
theorem Ip {x y:VT} (h:ltOf lq x y=true):So.cT x.1 y.1<0:=of_decide_eq_true h
theorem zL {x y:VT} (h:ltOf lq x y=false):0≤So.cT x.1 y.1:=by have:¬ So.cT x.1 y.1<0:=of_decide_eq_false h;omega
theorem Iq {x y:VT} (h:0≤So.cT x.1 y.1):ltOf lq x y=false:=decide_eq_false (by show ¬ So.cT x.1 y.1<0;omega)
theorem QG:Go.Sort.SWO (ltOf lq) where
 irrefl x:=Iq (by
  have:=So.fM.self x.1
  omega)
 trans x y z h1 h2:=decide_eq_true (So.fM.lt (Ip h1) (Ip h2))
 ntrans x y z h1 h2:=Iq (by
  have b1:=zL h1
  have b2:=zL h2
  have a1:=So.fM.neg x.1 y.1
  have a2:=So.fM.neg y.1 z.1
  have a3:=So.fM.neg x.1 z.1
  have:=So.fM.trans z.1 y.1 x.1 ak ak
  omega)
theorem acp (blk n:Nat) (w:World):CmpLays prog 128 #[] ku 3 lq blk 0 n w:=by intro m os dk hdk x y;obtain ⟨hx1,hx2,_⟩:=qH x;obtain ⟨hy1,hy2,_⟩:=qH y;have:=aco (x.1.1:Nat) (y.1.1:Nat) x.1.2.1 x.1.2.2 y.1.2.1 y.1.2.2 (sortWorldK ku 3 w blk 0 m dk os) hx1 hx2 hy1 hy2;refine this.mono ?_;rintro e w' ⟨rfl,h1,h2⟩;exact ⟨by rw [zK,zK];rfl,Hl h1 h2⟩
theorem acr {w:World} {blk off n k:Nat} {d:Array VT} {os:Array Obj} (hk:k<w.heap.size) (hne:k≠blk):(sortWorldK ku 3 w blk off n d os).heap[k]?=w.heap[k]?:=by unfold sortWorldK;rw [Go.Sort.heap_grow_old _ _ (by show k<(putRow id (Go.Sort.ahead w n) blk off _).heap.size;simp [putRow,mapBlock,Go.Sort.ahead];exact hk)];show (putRow id (Go.Sort.ahead w n) blk off _).heap[k]?=_;simp only [putRow,mapBlock,Array.getElem?_modify];rw [if_neg (fun e=>hne e.symm)];rfl
structure Off (b:Nat) (w w':World):Prop where
 os:w'.os=w.os
 tape:w'.tape=w.tape
 output:w'.output=w.output
 size:w.heap.size≤w'.heap.size
 block:∀ k,k<w.heap.size→k≠b→w'.heap[k]?=w.heap[k]?
theorem Off.refl (b:Nat) (w:World):Off b w w:=⟨rfl,rfl,rfl,Nat.le_refl _,fun _ _ _=>rfl⟩
theorem Off.trans {b:Nat} {u v w:World} (h:Off b u v) (k:Off b v w):Off b u w:=
 ⟨k.os.trans h.os,k.tape.trans h.tape,k.output.trans h.output,Nat.le_trans h.size k.size,fun i hi hne=>(k.block i (Nat.lt_of_lt_of_le hi h.size) hne).trans (h.block i hi hne)⟩
theorem Off.below {b B:Nat} {w0 w w':World} (h:Below B w0 w) (k:Off b w w') (hB:B≤b) (hw:B≤w.heap.size):Below B w0 w':=
 h.trans ⟨k.os,k.tape,k.output,k.size,fun i hi=>k.block i ak ak⟩
theorem Off.drewN {b:Nat} {w w':World} (h:Off b w w') (n:Nat):Off b w (w'.drewN n):=⟨h.os,h.tape,h.output,h.size,h.block⟩
theorem Off.setCell {b o:Nat} {w w':World} (h:Off b w w') (u:Value):Off b w (w'.setCell ⟨b,o,none⟩ u):=
 h.trans ⟨rfl,rfl,rfl,by simp [World.setCell],fun k hk hne=>Below.heap_setCell _ _ _ _ hne⟩
theorem Off.alloc {b:Nat} {w w':World} (h:Off b w w') (o:Obj):Off b w (w'.alloc o):=
 h.trans ⟨rfl,rfl,rfl,aI,fun k hk _=>Below.heap_alloc _ _ _ hk⟩
theorem acs (w:World) (blk n:Nat) (d:Array VT) (os:Array Obj):Off blk w (sortWorldK ku 3 w blk 0 n d os):=
 ⟨rfl,rfl,rfl,size_sortWorldK_c ku 3 w blk 0 n d os,fun k hk hne=>acr hk hne⟩
theorem acu (blk cap:Nat) (d:Array VT) (w:World) (hl:d.size≤1000000) (hH:HoldsK ku 3 w blk 0 d) (hblk:blk<w.heap.size) :
  Calls prog 127 #[.slice (some ⟨blk,0,none⟩) d.size cap,.func (.func 128) #[] #[]] w fun e w'=>e=.returned (.tuple #[])∧∃ d':Array VT,d'.size=d.size∧d'.toList.Perm d.toList∧(d'.toList.map (·.1)).Pairwise (fun a b=>So.cT a b≤0)∧HoldsK ku 3 w' blk 0 d'∧Off blk w w':=by
 have h:=AnyQ.slices_SortFunc_total Tryz.sortTerms 3 isAgg61 sizeOf61 ku (fun _=>rfl) (fun x v hv=>sj x.1 v hv) lq QG 128 #[] blk 0 cap d w (enters_of func128 aG rfl) (acp blk d.size w) hH hblk ak (fun x y h1 h2=>by have b1:=zL h1;have b2:=zL h2;have:=So.fM.neg x.1 y.1;exact Subtype.ext (So.fM.zero _ _ x.2 y.2 ak));change Calls prog 127 _ _ _ at h;refine h.mono ?_;rintro e w' ⟨rfl,n,os,rfl⟩;have hp:=List.mergeSort_perm d.toList (fun x y=>!(ltOf lq) y x);have hs:(d.toList.mergeSort fun x y=>!(ltOf lq) y x).toArray.size=d.size:=aI;refine ⟨rfl,_,hs,hp,?_,holdsK_sortWorldK_c ku 3 w blk 0 d _ n os hH hblk hs,acs _ _ _ _ _⟩;rw [List.pairwise_map];refine List.Pairwise.imp (fun {a b} h=>?_) (List.pairwise_mergeSort (le:=fun x y=>!(ltOf lq) y x) (fun a b c h1 h2=>?_) (fun a b=>?_) d.toList);{have hb:=zL (by simpa using h:ltOf lq b a=false);have:=So.fM.neg a.1 b.1;omega};{exact by have a1:ltOf lq b a=false:=(by simpa using h1);have a2:ltOf lq c b=false:=(by simpa using h2);simpa using QG.ntrans c b a a2 a1}
 · cases h1:ltOf lq b a with
   | false=>simp [h1]
   | true=>have b1:=Ip h1;have:=So.fM.neg a.1 b.1;have h2:ltOf lq a b=false:=Iq ak;simp [h2]
theorem acv:61<prog.types.size:=of_decide_eq_true aG
theorem acw:(match prog.underlying 61 with | some (.array _ _) | some (.struct _)=>true | _=>false)=true:=aG
theorem Ed:Maps.Keyed prog 61:=Maps.Keyed.of_law (deep_law_laid N8 (m:=4) ak acv aG acw)
theorem acy:prog.keyType 61=true:=aG
def su (a:T3):Lit:=.string (keyBytes [.int .i64 (a.1:Nat),.string a.2.1,.string a.2.2])
theorem acz (k:Int) (t x:List UInt8) (hk:(Lit.int .i64 k).wf=true) (ht:t.length≤maxLen) (hx:x.length≤maxLen) :
  keyOf prog 61 (bG k t x)=some (.string (keyBytes [.int .i64 k,.string t,.string x])):=by
 obtain ⟨d,hd⟩:∃ d,prog.types.size+1=d+2:=⟨prog.types.size-1,by have:3≤prog.types.size:=of_decide_eq_true aG;omega⟩;have e:=CW d k t x hk ht hx;have hf:(bG k t x).formed prog 61=true:=by have c4:=Gj;have u:=underlying61;simp [Value.formed,u,c4]
 have u:=underlying61;unfold keyOf;rw [u];simp only;rw [acy,hf,hd];have ec:(bG k t x).cells.toList=[.int .i64 k,aA t,aA x]:=by simp [Value.cells]
 rw [ec,e];rfl
def nW (a:T3):Prop:=a.1≤5∧a.2.1.length≤100000000∧a.2.2.length≤100000000
theorem zM {a:T3} (h:nW a):keyOf prog 61 (qG a)=some (su a):=
 acz _ _ _ (CZ h.1) (by have:=h.2.1;unfold maxLen;omega) (by have:=h.2.2;unfold maxLen;omega)
theorem acA {a b:T3} (ha:nW a) (hb:nW b) (h:su a=su b):a=b:=by have e:=Ed.inj (zM ha) (h ▸ zM hb);obtain ⟨a1,a2,a3⟩:=a;obtain ⟨b1,b2,b3⟩:=b;simp only [Value.agg.injEq,Array.mk.injEq,List.cons.injEq,Value.int.injEq,true_and,and_true,Int.natCast_inj] at e;obtain ⟨e1,e2,e3⟩:=e;rw [e1,str_inj e2,str_inj e3]
theorem acB {a:T3} (h:So.dD a):nW a:=by
 have h1:=Tm.gQ h;obtain ⟨n,hn,h2,h3⟩:=Tm.gZ h;have:a.1=n:=by exact_mod_cast hn
 exact ⟨ak,ak,ak⟩
def jQ (E:List T3) (i:Nat):DataW Unit:=(E.take i).zipIdx.foldl (fun D p=>D.put (su p.1) (.lit (.int .i64 ((p.2+1:Nat):Int)))) (.map [])
theorem Ir (E:List T3) (i:Nat) (h:i<E.length):jQ E (i+1)=(jQ E i).put (su E[i]) (.lit (.int .i64 ((i+1:Nat):Int))):=by
 unfold jQ;rw [List.take_succ_eq_append_getElem h,List.zipIdx_append,List.foldl_append];have:(E.take i).length=i:=by rw [List.length_take];omega
 simp [this]
theorem QH (E:List T3):∀ i,i≤E.length→Maps.IsMap (jQ E i)
 | 0,_=>⟨[],rfl⟩
 | i+1,h=>by rw [Ir E i ak];exact (QH E i ak).put _ _
theorem QI {E:List T3} (hn:E.Nodup) (hE:∀ a∈E,nW a) {t:T3} (ht:nW t):∀ i,i≤E.length →
  (jQ E i).atKey (su t) (.lit (.int .i64 0))=.lit (.int .i64 ((if t∈E.take i then So.num E t else 0:Nat):Int))
 | 0,_=>rfl
 | i+1,h=>by
  have ih:=QI hn hE ht i ak
  have hi:i<E.length:=ak
  rw [Ir E i hi,List.take_succ_eq_append_getElem hi]
  by_cases e:t=E[i]
  · have hk:WideAt.IsKeyLit (su t):=Ed.key (zM ht)
    rw [←e,Maps.atKey_put_same (QH E i ak) hk,if_pos aI,e,So.Ie hn hi]
  · rw [Maps.atKey_put_other (fun h2=>e (acA ht (hE _ (List.getElem_mem hi)) h2)),ih]
    simp only [List.mem_append,List.mem_singleton,e,or_false]
theorem acC {E:List T3} (hn:E.Nodup) (hE:∀ a∈E,nW a) {t:T3} (ht:nW t):(jQ E E.length).atKey (su t) (.lit (.int .i64 0))=.lit (.int .i64 (So.num E t:Nat)):=by rw [QI hn hE ht _ aF,List.take_length];by_cases h:t∈E;{rw [if_pos h]};{rw [if_neg h,So.zG h]}
end Go.Proofs.YtjaebndajhppgaaGreatDoor
