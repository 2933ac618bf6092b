/-SoComp-/
import Derived.WalkKit
import Derived.Test.YtjaebndajhppgaaGreatDoorMnGTri
import Derived.Test.YtjaebndajhppgaaGreatDoorMnGRg5
import Derived.Test.YtjaebndajhppgaaGreatDoorMnGTm3
import Derived.Test.YtjaebndajhppgaaGreatDoorMnGRg4
import Derived.Maps.OwnOps
import Derived.Laws.StructEq
set_option linter.unusedVariables false
set_option linter.unusedSectionVars false
set_option linter.unusedSimpArgs false
set_option maxRecDepth 100000
set_option maxHeartbeats 4000000
namespace Go.Proofs.YtjaebndajhppgaaGreatDoor.So
variable {α:Type} [DecidableEq α]
structure Ord (cf:α→α→Int) (V:α→Prop):Prop where
 neg:∀ a b,cf b a = - cf a b
 trans:∀ a b c,cf a b≤0→cf b c≤0→cf a c≤0
 zero:∀ a b,V a→V b→cf a b=0→a=b
variable {cf:α→α→Int} {V:α→Prop}
theorem Ord.lt (h:Ord cf V) {p q r:α} (h1:cf p q<0) (h2:cf q r<0):cf p r<0:=by
 have h0:=h.trans p q r (Int.le_of_lt h1) (Int.le_of_lt h2)
 rcases Int.lt_or_eq_of_le h0 with h3 | h3
 · exact h3
 · exfalso
   have h4:cf r p≤0:=by rw [h.neg p r,h3];decide
   have h5:=h.trans q r p (Int.le_of_lt h2) h4
   have:=h.neg p q
   omega
theorem Ord.self (h:Ord cf V) (a:α):cf a a=0:=by have:=h.neg a a;omega
def Srt (cf:α→α→Int) (l:List α):Prop:=l.Pairwise fun a b=>cf a b<0
theorem srt_ext (hO:Ord cf V):∀ {l m:List α},Srt cf l→Srt cf m→(∀ t,t∈l↔t∈m)→l=m
 | [],[],_,_,_=>rfl
 | [],b::m,_,_,h=>absurd ((h b).2 (by simp)) (by simp)
 | a::l,[],_,_,h=>absurd ((h a).1 (by simp)) (by simp)
 | a::l,b::m,hl,hm,h=>by
  obtain ⟨h1,h2⟩:=List.pairwise_cons.1 hl
  obtain ⟨k1,k2⟩:=List.pairwise_cons.1 hm
  have hself:∀ t,¬ cf t t<0:=fun t ht=>by have:=hO.self t;omega
  have e:a=b:=by
   have ha:=(h a).1 (by simp)
   have hb:=(h b).2 (by simp)
   rcases List.mem_cons.1 ha with e | ha
   · exact e
   · rcases List.mem_cons.1 hb with e | hb
     · exact e.symm
     · exact absurd (hO.lt (k1 a ha) (h1 b hb)) (hself b)
  subst e
  rw [srt_ext hO h2 k2 fun t=>?_]
  constructor
  · intro ht
    rcases List.mem_cons.1 ((h t).1 (by simp [ht])) with rfl | h3
    · exact absurd (h1 t ht) (hself t)
    · exact h3
  · intro ht
    rcases List.mem_cons.1 ((h t).2 (by simp [ht])) with rfl | h3
    · exact absurd (k1 t ht) (hself t)
    · exact h3
def put (cf:α→α→Int) (l:List α) (t:α):List α:=if (l.dropWhile fun a=>decide (cf a t<0)).head?=some t then l else (l.takeWhile fun a=>decide (cf a t<0))++t::l.dropWhile fun a=>decide (cf a t<0)
theorem put_mem (l:List α) (t x:α):x∈put cf l t↔x∈l∨x=t:=by
 have e:=List.takeWhile_append_dropWhile (p:=fun a=>decide (cf a t<0)) (l:=l)
 unfold put
 split
 · rename_i h
   constructor
   · exact .inl
   · rintro (h1 | rfl)
     · exact h1
     · rw [←e]
       have:=List.mem_of_mem_head? (Option.mem_def.2 h)
       exact List.mem_append_right _ this
 · conv=>rhs;rw [←e]
   simp only [List.mem_append,List.mem_cons]
   constructor
   · rintro (h1 | h1 | h1)
     · exact .inl (.inl h1)
     · exact .inr h1
     · exact .inl (.inr h1)
   · rintro ((h1 | h1) | h1)
     · exact .inl h1
     · exact .inr (.inr h1)
     · exact .inr (.inl h1)
theorem put_srt (hO:Ord cf V) {l:List α} {t:α} (hl:Srt cf l) (hv:∀ a∈l,V a) (ht:V t):Srt cf (put cf l t):=by
 have e:=List.takeWhile_append_dropWhile (p:=fun a=>decide (cf a t<0)) (l:=l)
 unfold put
 split
 · exact hl
 · rename_i h
   have hp:Srt cf (l.takeWhile (fun a=>decide (cf a t<0))++l.dropWhile (fun a=>decide (cf a t<0))):=by rw [e];exact hl
   obtain ⟨p1,p2,p3⟩:=List.pairwise_append.1 hp
   have hlo:∀ a∈l.takeWhile (fun a=>decide (cf a t<0)),cf a t<0:=fun a ha=>by
    have h1:(l.takeWhile (fun a=>decide (cf a t<0))).all (fun a=>decide (cf a t<0))=true:=List.all_takeWhile
    simpa using List.all_eq_true.1 h1 a ha
   have hhi:∀ b∈l.dropWhile (fun a=>decide (cf a t<0)),cf t b<0:=by
    obtain ⟨d,hd⟩:∃ d,d=l.dropWhile (fun a=>decide (cf a t<0)):=⟨_,rfl⟩
    rw [←hd] at h p2 p3 ⊢
    cases d with
    | nil=>intro b hb;cases hb
    | cons c d=>
     have hc:¬ cf c t<0:=by
      have:=List.head?_dropWhile_not (fun a=>decide (cf a t<0)) l
      rw [←hd] at this
      simpa using this
     have hcm:c∈l:=by rw [←e,←hd];simp
     have hne:c≠t:=fun e=>h (by rw [e];rfl)
     have h0:cf c t≠0:=fun h0=>hne (hO.zero _ _ (hv c hcm) ht h0)
     have hn:=hO.neg c t
     have hct:cf t c<0:=by omega
     intro b hb
     rcases List.mem_cons.1 hb with rfl | hb
     · exact hct
     · exact hO.lt hct ((List.pairwise_cons.1 p2).1 b hb)
   refine List.pairwise_append.2 ⟨p1,List.pairwise_cons.2 ⟨hhi,p2⟩,fun a ha b hb=>?_⟩
   rcases List.mem_cons.1 hb with rfl | hb
   · exact hlo a ha
   · exact p3 a ha b hb
theorem foldl_put (hO:Ord cf V):∀ (l a:List α),Srt cf a→(∀ t∈a,V t)→(∀ t∈l,V t)→Srt cf (l.foldl (put cf) a)∧∀ x,x∈l.foldl (put cf) a↔x∈a∨x∈l
 | [],a,hs,_,_=>⟨hs,fun x=>by simp⟩
 | t::l,a,hs,ha,hl=>by
  obtain ⟨h1,h2⟩:=foldl_put hO l (put cf a t) (put_srt hO hs ha (hl t (by simp))) (fun x hx=>by
   rcases (put_mem a t x).1 hx with h | rfl
   · exact ha x h
   · exact hl x (by simp)) (fun x hx=>hl x (by simp [hx]))
  refine ⟨h1,fun x=>?_⟩
  rw [List.foldl_cons,h2 x,put_mem,List.mem_cons]
  constructor
  · rintro ((h | h) | h)
    · exact .inl h
    · exact .inr (.inl h)
    · exact .inr (.inr h)
  · rintro (h | h | h)
    · exact .inl (.inl h)
    · exact .inl (.inr h)
    · exact .inr h
theorem put_len (l:List α) (t:α):(put cf l t).length≤l.length+1:=by
 have e:=congrArg List.length (List.takeWhile_append_dropWhile (p:=fun a=>decide (cf a t<0)) (l:=l))
 unfold put
 split
 · omega
 · simp only [List.length_append,List.length_cons] at *;omega
theorem foldl_put_len:∀ (l a:List α),(l.foldl (put cf) a).length≤a.length+l.length
 | [],a=>by simp
 | t::l,a=>by
  have:=foldl_put_len l (put cf a t)
  have h:=put_len (cf:=cf) a t
  rw [List.foldl_cons,List.length_cons];omega
def all (cf:α→α→Int) (l:List α):List α:=l.foldl (put cf) []
theorem all_srt (hO:Ord cf V) {l:List α} (hl:∀ t∈l,V t):Srt cf (all cf l):=(foldl_put hO l [] List.Pairwise.nil (by simp) hl).1
theorem all_mem (hO:Ord cf V) {l:List α} (hl:∀ t∈l,V t) (x:α):x∈all cf l↔x∈l:=by
 have:=(foldl_put hO l [] List.Pairwise.nil (by simp) hl).2 x
 unfold all;simpa using this
theorem all_len (l:List α):(all cf l).length≤l.length:=by
 have:=foldl_put_len (cf:=cf) l []
 simpa [all] using this
theorem all_eq (hO:Ord cf V) {l m:List α} (hl:∀ t∈l,V t) (hm:Srt cf m) (h:∀ t,t∈m↔t∈l):m=all cf l:=
 srt_ext hO hm (all_srt hO hl) fun t=>by rw [h,all_mem hO hl]
theorem srt_nodup (hO:Ord cf V) {l:List α} (h:Srt cf l):l.Nodup:=List.Pairwise.imp (fun {a b} hab e=>by subst e;have:=hO.self a;omega) h
theorem srt_lt (hO:Ord cf V) {l:List α} (h:Srt cf l) {i j:Nat} (hi:i<l.length) (hj:j<l.length):cf l[i] l[j]<0↔i<j:=by
 constructor
 · intro hc
   rcases Nat.lt_trichotomy i j with h1 | h1 | h1
   · exact h1
   · subst h1;have:=hO.self l[i];omega
   · have:=List.pairwise_iff_getElem.1 h j i hj hi h1
     have:=hO.neg l[i] l[j];omega
 · exact List.pairwise_iff_getElem.1 h i j hi hj
def num (E:List α) (t:α):Nat:=if t∈E then E.findIdx (fun a=>decide (a=t))+1 else 0
theorem num_not {E:List α} {t:α} (h:¬ t∈E):num E t=0:=if_neg h
theorem num_get {E:List α} {t:α} (h:t∈E):∃ i,∃ h:i<E.length,num E t=i+1∧E[i]=t:=by
 have hl:E.findIdx (fun a=>decide (a=t))<E.length:=List.findIdx_lt_length_of_exists ⟨t,h,by simp⟩
 refine ⟨_,hl,if_pos h,?_⟩
 have:=List.findIdx_getElem (p:=fun a=>decide (a=t)) (w:=hl)
 simpa using this
theorem num_at {E:List α} (hn:E.Nodup) {i:Nat} (hi:i<E.length):num E E[i]=i+1:=by
 obtain ⟨j,hj,h1,h2⟩:=num_get (List.getElem_mem hi)
 have e:j=i:=(List.getElem_inj hn).1 h2
 rw [h1,e]
theorem num_bound {E:List α} (t:α):num E t≤E.length:=by
 by_cases h:t∈E
 · obtain ⟨i,hi,h1,_⟩:=num_get h;omega
 · rw [num_not h];exact Nat.zero_le _
theorem num_pos {E:List α} {t:α}:0<num E t↔t∈E:=by
 by_cases h:t∈E
 · obtain ⟨i,hi,h1,_⟩:=num_get h
   exact ⟨fun _=>h,fun _=>by omega⟩
 · rw [num_not h];exact ⟨fun h=>absurd h (by omega),fun h2=>absurd h2 h⟩
theorem num_lt (hO:Ord cf V) {E:List α} (h:Srt cf E) {a b:α} (ha:a∈E) (hb:b∈E):cf a b<0↔num E a<num E b:=by
 obtain ⟨i,hi,h1,rfl⟩:=num_get ha
 obtain ⟨j,hj,h2,rfl⟩:=num_get hb
 rw [h1,h2,srt_lt hO h];omega
def cp (l:List α):Nat→List α
 | 0=>[]
 | m+1=>cp l m++if 0<m∧l[m]?=l[m-1]? then [] else l[m]?.toList
theorem cp_len (l:List α):∀ m,(cp l m).length≤m
 | 0=>by simp [cp]
 | m+1=>by
  have:=cp_len l m
  rw [cp,List.length_append]
  split
  · simp only [List.length_nil];omega
  · cases l[m]? <;> simp <;> omega
theorem cp_new {l:List α} {m:Nat} (h:m<l.length) (hne:m=0∨l[m]?≠l[m-1]?):cp l (m+1)=cp l m++[l[m]]:=by
 rw [cp,if_neg (by rcases hne with rfl | h2
                   · simp
                   · exact fun h=>h2 h.2),List.getElem?_eq_getElem h];rfl
theorem cp_old {l:List α} {m:Nat} (hm:0<m) (h:l[m]?=l[m-1]?):cp l (m+1)=cp l m:=by
 rw [cp,if_pos ⟨hm,h⟩,List.append_nil]
theorem cp_take {l:List α}:∀ (m:Nat),m≤l.length→(∀ i,0<i→i<m→l[i]?≠l[i-1]?)→cp l m=l.take m
 | 0,_,_=>by simp [cp]
 | m+1,h,hd=>by
  rw [cp_new (by omega) (by rcases Nat.eq_zero_or_pos m with h0 | h0
                            · exact .inl h0
                            · exact .inr (hd m h0 (by omega))),cp_take m (by omega) fun i h1 h2=>hd i h1 (by omega)]
  rw [List.take_succ_eq_append_getElem (by omega)]
theorem cp_mem {l:List α}:∀ (m:Nat),m≤l.length→∀ x,x∈cp l m↔∃ i,i<m∧l[i]?=some x
 | 0,_,x=>by simp [cp]
 | m+1,h,x=>by
  have ih:=cp_mem (l:=l) m (by omega) x
  have hg:l[m]?=some l[m]:=List.getElem?_eq_getElem (by omega)
  by_cases ho:0<m∧l[m]?=l[m-1]?
  · rw [cp_old ho.1 ho.2,ih]
    constructor
    · rintro ⟨i,h1,h2⟩;exact ⟨i,by omega,h2⟩
    · rintro ⟨i,h1,h2⟩
      by_cases he:i=m
      · subst he;exact ⟨i-1,by omega,by rw [←ho.2];exact h2⟩
      · exact ⟨i,by omega,h2⟩
  · rw [cp_new (by omega) (by rcases Nat.eq_zero_or_pos m with h0 | h0
                              · exact .inl h0
                              · exact .inr fun h=>ho ⟨h0,h⟩),List.mem_append,ih,List.mem_singleton]
    constructor
    · rintro (⟨i,h1,h2⟩ | rfl)
      · exact ⟨i,by omega,h2⟩
      · exact ⟨m,by omega,hg⟩
    · rintro ⟨i,h1,h2⟩
      by_cases he:i=m
      · subst he;rw [hg] at h2;exact .inr (Option.some.inj h2).symm
      · exact .inl ⟨i,by omega,h2⟩
theorem cp_srt (hO:Ord cf V) {l:List α} (hs:l.Pairwise fun a b=>cf a b≤0) (hV:∀ a∈l,V a):∀ (m:Nat),m≤l.length→Srt cf (cp l m)
 | 0,_=>by simp [cp,Srt]
 | m+1,h=>by
  have ih:=cp_srt hO hs hV m (by omega)
  by_cases ho:0<m∧l[m]?=l[m-1]?
  · rw [cp_old ho.1 ho.2];exact ih
  · rw [cp_new (by omega) (by rcases Nat.eq_zero_or_pos m with h0 | h0
                              · exact .inl h0
                              · exact .inr fun h=>ho ⟨h0,h⟩)]
    refine List.pairwise_append.2 ⟨ih,List.pairwise_singleton _ _,fun a ha b hb=>?_⟩
    rw [List.mem_singleton.1 hb]
    obtain ⟨i,hi,h2⟩:=(cp_mem m (by omega) a).1 ha
    have hil:i<l.length:=by omega
    rw [List.getElem?_eq_getElem hil] at h2
    have e:=Option.some.inj h2
    subst e
    have hle:=List.pairwise_iff_getElem.1 hs i m hil (by omega) hi
    rcases Int.lt_or_eq_of_le hle with h3 | h3
    · exact h3
    · exfalso
      have e:=hO.zero _ _ (hV _ (List.getElem_mem hil)) (hV _ (List.getElem_mem (by omega:m<l.length))) h3
      have hne:l[m]≠l[m-1]:=fun e2=>ho ⟨by omega,by rw [List.getElem?_eq_getElem (by omega),List.getElem?_eq_getElem (by omega),e2]⟩
      have h4:cf l[i] l[m-1]≤0:=by
       rcases Nat.lt_or_ge i (m-1) with h5 | h5
       · exact List.pairwise_iff_getElem.1 hs i (m-1) hil (by omega) h5
       · have:i=m-1:=by omega
         subst this
         have:=hO.self l[m-1];omega
      have h5:=List.pairwise_iff_getElem.1 hs (m-1) m (by omega) (by omega) (by omega)
      rw [e] at h4
      have h6:=hO.neg l[m-1] l[m]
      exact hne (hO.zero _ _ (hV _ (List.getElem_mem _)) (hV _ (List.getElem_mem _)) (by omega))
theorem cp_all (hO:Ord cf V) {l m:List α} (hs:m.Pairwise fun a b=>cf a b≤0) (hV:∀ a∈l,V a) (hp:m.Perm l):cp m m.length=all cf l:=by
 have hVm:∀ a∈m,V a:=fun a ha=>hV a (hp.mem_iff.1 ha)
 refine all_eq hO hV (cp_srt hO hs hVm _ (Nat.le_refl _)) fun t=>?_
 rw [cp_mem _ (Nat.le_refl _),←hp.mem_iff,List.mem_iff_getElem?]
 constructor
 · rintro ⟨i,_,h⟩;exact ⟨i,h⟩
 · rintro ⟨i,h⟩
   refine ⟨i,?_,h⟩
   rcases Nat.lt_or_ge i m.length with h1 | h1
   · exact h1
   · rw [List.getElem?_eq_none h1] at h;cases h
abbrev T3:=Tm.T3
abbrev TT:=Tm.TT
def sh (a:T3):Tm.T:=Tm.showT a.1 a.2.1 a.2.2
def cT (a b:T3):Int:=Tm.cmp (sh a) (sh b)
def isT (a:T3):Prop:=Tm.isT a=true
theorem sh_inj {a b:T3} (ha:isT a) (hb:isT b) (h:sh a=sh b):a=b:=by
 obtain ⟨n,t,x⟩:=a
 obtain ⟨m,u,y⟩:=b
 obtain ⟨e1,e2,e3⟩:=(Tm.show_inj ha hb).1 h
 exact Prod.ext e1 (Prod.ext e2 e3)
theorem ordT:Ord cT isT where
 neg a b:=Tm.cmp_neg _ _
 trans a b c h1 h2:=Tm.cmp_trans h1 h2
 zero a b ha hb h:=sh_inj ha hb (Tm.cmp_zero.1 h)
def flat (l:List TT):List T3:=l.flatMap fun p=>[p.1,p.2.1,p.2.2]
theorem flat_snoc (l:List TT) (p:TT):flat (l++[p])=flat l++[p.1,p.2.1,p.2.2]:=by simp [flat]
theorem flat_len:∀ (l:List TT),(flat l).length=3*l.length
 | []=>rfl
 | p::l=>by
  have:=flat_len l
  show ([p.1,p.2.1,p.2.2]++flat l).length=_
  simp only [List.length_append,List.length_cons,List.length_nil,this];omega
theorem flat_mem {l:List TT} {t:T3}:t∈flat l↔∃ p∈l,t=p.1∨t=p.2.1∨t=p.2.2:=by simp [flat]
theorem tri_is {p:TT} (h:Tm.isTri p=true):isT p.1∧isT p.2.1∧isT p.2.2:=by
 obtain ⟨_,_,h1,h2,h3⟩:=Tm.isTri_parts h
 exact ⟨h1,h2,h3⟩
theorem flat_is {l:List TT} (h:∀ p∈l,Tm.isTri p=true):∀ t∈flat l,isT t:=fun t ht=>by
 obtain ⟨p,hp,h2⟩:=flat_mem.1 ht
 obtain ⟨a,b,c⟩:=tri_is (h p hp)
 rcases h2 with rfl | rfl | rfl
 · exact a
 · exact b
 · exact c
def terms (l:List TT):List T3:=all cT (flat l)
theorem terms_srt {l:List TT} (h:∀ p∈l,Tm.isTri p=true):Srt cT (terms l):=all_srt ordT (flat_is h)
theorem terms_mem {l:List TT} (h:∀ p∈l,Tm.isTri p=true) (t:T3):t∈terms l↔t∈flat l:=all_mem ordT (flat_is h) t
theorem terms_is {l:List TT} (h:∀ p∈l,Tm.isTri p=true):∀ t∈terms l,isT t:=fun t ht=>flat_is h t ((terms_mem h t).1 ht)
theorem terms_len (l:List TT):(terms l).length≤3*l.length:=by rw [←flat_len];exact all_len _
theorem terms_tri {l:List TT} (h:∀ p∈l,Tm.isTri p=true) {p:TT} (hp:p∈l):p.1∈terms l∧p.2.1∈terms l∧p.2.2∈terms l:=
 ⟨(terms_mem h _).2 (flat_mem.2 ⟨p,hp,.inl rfl⟩),(terms_mem h _).2 (flat_mem.2 ⟨p,hp,.inr (.inl rfl)⟩),(terms_mem h _).2 (flat_mem.2 ⟨p,hp,.inr (.inr rfl)⟩)⟩
def nums (E:List T3) (p:TT):Rg.T:=((num E p.1:Nat),(num E p.2.1:Nat),(num E p.2.2:Nat))
def ids (l:List TT):List Rg.T:=l.map (nums (terms l))
theorem ids_len (l:List TT):(ids l).length=l.length:=List.length_map ..
theorem nums_lt {E:List T3} (hE:Srt cT E) {p q:TT} (h1:p.1∈E) (h2:p.2.1∈E) (h3:p.2.2∈E) (k1:q.1∈E) (k2:q.2.1∈E) (k3:q.2.2∈E) (hp:Tm.isTri p=true) (hq:Tm.isTri q=true) (h:Tm.cmpT p q<0):Rg.lt (nums E p) (nums E q):=by
 obtain ⟨p1,p2,p3⟩:=tri_is hp
 obtain ⟨q1,q2,q3⟩:=tri_is hq
 have e:Tm.cmpT p q=if cT p.1 q.1=0 then (if cT p.2.1 q.2.1=0 then cT p.2.2 q.2.2 else cT p.2.1 q.2.1) else cT p.1 q.1:=rfl
 rw [e] at h
 by_cases a:cT p.1 q.1=0
 · rw [if_pos a] at h
   have ea:=ordT.zero _ _ p1 q1 a
   by_cases b:cT p.2.1 q.2.1=0
   · rw [if_pos b] at h
     have eb:=ordT.zero _ _ p2 q2 b
     have:=(num_lt ordT hE h3 k3).1 h
     refine .inr ⟨?_,.inr ⟨?_,?_⟩⟩
     · show ((num E p.1:Nat):Int)=(num E q.1:Nat);rw [ea]
     · show ((num E p.2.1:Nat):Int)=(num E q.2.1:Nat);rw [eb]
     · show ((num E p.2.2:Nat):Int)<(num E q.2.2:Nat);omega
   · rw [if_neg b] at h
     have:=(num_lt ordT hE h2 k2).1 h
     refine .inr ⟨?_,.inl ?_⟩
     · show ((num E p.1:Nat):Int)=(num E q.1:Nat);rw [ea]
     · show ((num E p.2.1:Nat):Int)<(num E q.2.1:Nat);omega
 · rw [if_neg a] at h
   have:=(num_lt ordT hE h1 k1).1 h
   refine .inl ?_
   show ((num E p.1:Nat):Int)<(num E q.1:Nat);omega
theorem ids_may {l:List TT} (h:∀ p∈l,Tm.isTri p=true) (hs:Tm.Srt l) (hl:l.length≤100):RMay (ids l):=by
 have hE:=terms_srt h
 have hT:=fun p (hp:p∈l)=>terms_tri h hp
 refine ⟨?_,?_,by rw [ids_len];exact hl⟩
 · unfold ids
   rw [List.pairwise_map]
   refine List.Pairwise.imp_of_mem (fun {p q} hp hq hc=>?_) hs
   obtain ⟨a1,a2,a3⟩:=hT p hp
   obtain ⟨b1,b2,b3⟩:=hT q hq
   exact nums_lt hE a1 a2 a3 b1 b2 b3 (h p hp) (h q hq) hc
 · intro t ht
   obtain ⟨p,hp,rfl⟩:=List.mem_map.1 ht
   obtain ⟨a1,a2,a3⟩:=hT p hp
   have hb:=terms_len l
   have c1:=num_pos.2 a1
   have c2:=num_pos.2 a2
   have c3:=num_pos.2 a3
   have d1:=num_bound (E:=terms l) p.1
   have d2:=num_bound (E:=terms l) p.2.1
   have d3:=num_bound (E:=terms l) p.2.2
   intro c hc
   rcases Rg.c3 hc with rfl | rfl | rfl
   · show 1≤((num (terms l) p.1:Nat):Int)∧((num (terms l) p.1:Nat):Int)≤1000;omega
   · show 1≤((num (terms l) p.2.1:Nat):Int)∧((num (terms l) p.2.1:Nat):Int)≤1000;omega
   · show 1≤((num (terms l) p.2.2:Nat):Int)∧((num (terms l) p.2.2:Nat):Int)≤1000;omega
end Go.Proofs.YtjaebndajhppgaaGreatDoor.So
namespace Go.Proofs.YtjaebndajhppgaaGreatDoor
open Go.ChangeShapes Go.WideShapes Go.ChangeAt Go.RowKit
theorem dr_le {a b:World} (h:a.drawn≤b.drawn):Dr a b:=⟨b.drawn-a.drawn,by omega⟩
theorem quoteD (s:List UInt8) (W:World) (hs:s.length≤1000000000) :
  Calls Tryz.prog 99 #[str s] W fun e W'=>e=.returned (str (34::(Tm.escs s++[34])))∧Below W.heap.size W W'∧Dr W W':=
 (quote_anyD s W hs).mono fun _ _ h=>⟨h.1,h.2.1,dr_le h.2.2⟩
theorem gro_box (W:World) (a b c:Value) (t:TypeId):∃ w2,w2=W.alloc (.cells #[a,b,c] t)∧(∀ p:Gro w2,p.it.cell? ⟨W.heap.size,0,none⟩=some a)∧(∀ p:Gro w2,p.it.cell? ⟨W.heap.size,1,none⟩=some b)∧(∀ p:Gro w2,p.it.cell? ⟨W.heap.size,2,none⟩=some c)∧Hid (Below W.heap.size W w2)∧Hid (Dr W w2):=
 ⟨_,rfl,fun p=>(tm_cells p.low).1,fun p=>(tm_cells p.low).2.1,fun p=>(tm_cells p.low).2.2.1,(Below.refl W.heap.size W).alloc (Nat.le_refl _) _,(Dr.refl W).alloc _⟩
theorem tshowD (k:Int) (t x:List UInt8) (W:World) (ht:t.length≤1000000000) (hx:x.length≤1000000000) :
  Calls Tryz.prog 57 #[tmV k t x] W fun e W'=>e=.returned (str (Tm.show k t x))∧Below W.heap.size W W'∧Dr W W':=by
 have QU:=hid (fun W=>quoteD t W ht)
 have hle:=Tm.escs_len t
 rcases (show k=1∨k=2∨k=3∨k=4∨k=5∨(k<1∨5<k) by omega) with h | h | h | h | h | h
 · subst h
   go_enter Tryz.func57,Tryz.ntmps57
   go_wp2
   go_ret
   exact ⟨by simp [Tm.show,Tm.showT,ba_append],(Below.refl _ _).alloc (Nat.le_refl _) _,(Dr.refl W).alloc _⟩
 · subst h
   go_enter Tryz.func57,Tryz.ntmps57
   go_wp2
   go_ret
   exact ⟨by simp [Tm.show,Tm.showT,ba_append],(Below.refl _ _).alloc (Nat.le_refl _) _,(Dr.refl W).alloc _⟩
 · subst h
   go_enter Tryz.func57,Tryz.ntmps57
   go_wp2_with (go_at_call 99;refine (QU.out _).mono ?_;rintro e w' ⟨rfl,hb,hd⟩)
   go_ret
   exact ⟨by simp [Tm.show,Tm.showT,ba_append],((Below.refl _ _).alloc (Nat.le_refl _) _).trans (hb.mono (by simp)),((Dr.refl W).alloc _).trans hd⟩
 · subst h
   go_enter Tryz.func57,Tryz.ntmps57
   go_wp2
   obtain ⟨w2,hw2,k0,k1,k2,HB,HD⟩:=gro_box W (.int .i64 4) (str t) (str x) 61
   rw [←hw2]
   clear hw2
   refine wp_region_gro (by kernel_rfl) (by kernel_rfl) ?_
   repeat (go_big_quiet_step ((go_at_call 99;with_reducible exact Gro.call (QU.out _))))
   refine wpQuiet_nil ?_
   rintro _ ⟨p,rfl⟩
   have HP:=hid (below_then HB.out p.low)
   have HE:=hid (HD.out.trans p.dr)
   clear k0 k1 k2
   go_wp2
   go_ret
   exact ⟨by simp [Tm.show,Tm.showT,ba_append] <;> rfl,HP.out,HE.out⟩
 · subst h
   go_enter Tryz.func57,Tryz.ntmps57
   go_wp2
   obtain ⟨w2,hw2,k0,k1,k2,HB,HD⟩:=gro_box W (.int .i64 5) (str t) (str x) 61
   rw [←hw2]
   clear hw2
   refine wp_region_gro (by kernel_rfl) (by kernel_rfl) ?_
   repeat (go_big_quiet_step ((go_at_call 99;with_reducible exact Gro.call (QU.out _))))
   refine wpQuiet_nil ?_
   rintro _ ⟨p,rfl⟩
   have HP:=hid (below_then HB.out p.low)
   have HE:=hid (HD.out.trans p.dr)
   clear k0 k1 k2
   go_wp2
   go_ret
   exact ⟨by simp [Tm.show,Tm.showT,ba_append] <;> rfl,HP.out,HE.out⟩
 · have b1:(k==1)=false:=beq_eq_false_iff_ne.2 (by omega)
   have b2:(k==2)=false:=beq_eq_false_iff_ne.2 (by omega)
   have b3:(k==3)=false:=beq_eq_false_iff_ne.2 (by omega)
   have b4:(k==4)=false:=beq_eq_false_iff_ne.2 (by omega)
   have b5:(k==5)=false:=beq_eq_false_iff_ne.2 (by omega)
   have HS:=hid (Tm.show_none h t x)
   clear h
   go_enter Tryz.func57,Tryz.ntmps57
   go_wp2
   go_ret
   exact ⟨by rw [HS.out];rfl,(Below.refl _ _).alloc (Nat.le_refl _) _,(Dr.refl W).alloc _⟩
theorem tcmpD (k k2:Int) (t x t2 x2:List UInt8) (W:World) (ht:t.length≤1000000000) (hx:x.length≤1000000000) (ht2:t2.length≤1000000000) (hx2:x2.length≤1000000000) :
  Calls Tryz.prog 128 #[tmV k t x,tmV k2 t2 x2] W fun e W'=>e=.returned (.int .i64 (Tm.cmp (Tm.show k t x) (Tm.show k2 t2 x2)))∧Below W.heap.size W W'∧Dr W W':=by
 have S1:=hid (fun W=>tshowD k t x W ht hx)
 have S2:=hid (fun W=>tshowD k2 t2 x2 W ht2 hx2)
 obtain ⟨a,ha⟩:∃ a,a=Tm.show k t x:=⟨_,rfl⟩
 obtain ⟨b,hb⟩:∃ b,b=Tm.show k2 t2 x2:=⟨_,rfl⟩
 rw [←ha] at S1 ⊢
 rw [←hb] at S2 ⊢
 clear ha hb
 go_enter Tryz.func128,Tryz.ntmps128
 go_wp2
 obtain ⟨w2,hw2⟩:∃ w2,w2=((W.alloc (.cells #[.int .i64 k,str t,str x] 61)).alloc (.cells #[.int .i64 k2,str t2,str x2] 61)):=⟨_,rfl⟩
 have HB:=hid (show Below W.heap.size W w2 by rw [hw2];exact ((Below.refl W.heap.size W).alloc (Nat.le_refl _) _).alloc (by simp) _)
 have HD:=hid (show Dr W w2 by rw [hw2];exact ((Dr.refl W).alloc _).alloc _)
 have hb1:=((Below.refl (W.alloc (.cells #[.int .i64 k,str t,str x] 61)).heap.size (W.alloc (.cells #[.int .i64 k,str t,str x] 61))).alloc (Nat.le_refl _) (.cells #[.int .i64 k2,str t2,str x2] 61))
 rw [←hw2] at hb1 ⊢
 obtain ⟨c0,c1,c2,_⟩:=tm_cells hb1
 have d0:w2.cell? ⟨W.heap.size+1,0,none⟩=some (.int .i64 k2):=by
  have:=cell_new (W.alloc (.cells #[.int .i64 k,str t,str x] 61)) #[.int .i64 k2,str t2,str x2] 61 (0,0) 0
  rw [←hw2] at this;simpa using this
 have d1:w2.cell? ⟨W.heap.size+1,1,none⟩=some (str t2):=by
  have:=cell_new (W.alloc (.cells #[.int .i64 k,str t,str x] 61)) #[.int .i64 k2,str t2,str x2] 61 (0,0) 1
  rw [←hw2] at this;simpa using this
 have d2:w2.cell? ⟨W.heap.size+1,2,none⟩=some (str x2):=by
  have:=cell_new (W.alloc (.cells #[.int .i64 k,str t,str x] 61)) #[.int .i64 k2,str t2,str x2] 61 (0,0) 2
  rw [←hw2] at this;simpa using this
 clear hw2 hb1
 have kc0:=fun p:Gro w2=>p.keep c0
 have kc1:=fun p:Gro w2=>p.keep c1
 have kc2:=fun p:Gro w2=>p.keep c2
 have kd0:=fun p:Gro w2=>p.keep d0
 have kd1:=fun p:Gro w2=>p.keep d1
 have kd2:=fun p:Gro w2=>p.keep d2
 clear c0 c1 c2 d0 d1 d2
 refine wp_region_gro (by kernel_rfl) (by kernel_rfl) ?_
 repeat (go_big_quiet_step (first
  | (go_at_call 75;exact Gro.call ((scmp_any _ _ _).mono fun _ _ h=>⟨h.1,by rw [←h.2];exact Below.refl _ _,by rw [←h.2];exact Dr.refl _⟩))
  | (go_at_call 57;with_reducible exact Gro.call (S1.out _))
  | (go_at_call 57;with_reducible exact Gro.call (S2.out _))))
 refine wpQuiet_nil ?_
 rintro _ ⟨p,rfl⟩
 have HP:=hid (below_then HB.out p.low)
 have HE:=hid (HD.out.trans p.dr)
 clear kc0 kc1 kc2 kd0 kd1 kd2
 go_wp2
 go_ret
 exact ⟨rfl,HP.out,HE.out⟩
open Go.Sort
abbrev T3:=So.T3
def tm3 (a:T3):List Value:=[.int .i64 (a.1:Nat),str a.2.1,str a.2.2]
abbrev tmv (a:T3):Value:=tmV (a.1:Nat) a.2.1 a.2.2
theorem tm3_one (a:T3):∀ u∈tm3 a,u.oneCell'=true:=by
 intro u hu
 simp only [tm3,List.mem_cons,List.not_mem_nil,or_false] at hu
 rcases hu with rfl | rfl | rfl <;> rfl
theorem tm3_get (a:T3) (c:Nat) (hc:c<3):(tm3 a)[c]?=some (tm3 a)[c]!:=by
 rcases Rg.c3 hc with rfl | rfl | rfl <;> rfl
def TermsAt (W:World) (v:Value) (E:List T3):Prop:=∃ (a:Option Addr) (cap:Nat),v=.slice a E.length cap∧E.length≤cap∧cap≤maxLen∧(a=none→cap=0) ∧
 (E.length=0∨∃ b off,a=some ⟨b,off,none⟩∧∀ i (h:i<E.length) c,c<3→W.cell? ⟨b,off+i*3+c,none⟩=(tm3 E[i])[c]?)
theorem TermsAt.keep {W W':World} {v:Value} {E:List T3} (h:TermsAt W v E) (hb:Below W.heap.size W W'):TermsAt W' v E:=by
 obtain ⟨a,cap,h1,h2,h3,h4,h5⟩:=h
 refine ⟨a,cap,h1,h2,h3,h4,?_⟩
 rcases h5 with h5 | ⟨b,off,e,h5⟩
 · exact Or.inl h5
 · exact Or.inr ⟨b,off,e,fun i hi c hc=>by rw [tm3_get _ c hc];exact below_keep hb (by rw [←tm3_get _ c hc];exact h5 i hi c hc)⟩
theorem TermsAt.nil (W:World):TermsAt W (.slice none 0 0) []:=⟨none,0,rfl,Nat.le_refl _,by unfold maxLen;omega,fun _=>rfl,Or.inl rfl⟩
theorem TermsAt.open {W:World} {v:Value} {E:List T3} (h:TermsAt W v E):∃ a cap,v=.slice a E.length cap∧E.length≤cap∧cap≤maxLen∧(a=none→cap=0):=by
 obtain ⟨a,cap,h1,h2,h3,h4,_⟩:=h
 exact ⟨a,cap,h1,h2,h3,h4⟩
theorem TermsAt.get {W:World} {a:Option Addr} {n cap:Nat} {E:List T3} (h:TermsAt W (.slice a n cap) E) {i:Nat} (hi:i<E.length):∃ b off,a=some ⟨b,off,none⟩∧∀ i (h:i<E.length) c,c<3→W.cell? ⟨b,off+i*3+c,none⟩=(tm3 E[i])[c]?:=by
 obtain ⟨a',cap',e,h2,h3,h4,h5⟩:=h
 simp only [Value.slice.injEq] at e
 obtain ⟨rfl,rfl,rfl⟩:=e
 rcases h5 with h5 | h5
 · omega
 · exact h5
theorem TermsAt.at {W:World} {b off n cap:Nat} {E:List T3} (h:TermsAt W (.slice (some ⟨b,off,none⟩) n cap) E) {i:Nat} (hi:i<E.length) :
  W.cell? ⟨b,off+i*3,none⟩=some (.int .i64 (E[i].1:Nat))∧W.cell? ⟨b,off+i*3+1,none⟩=some (str E[i].2.1)∧W.cell? ⟨b,off+i*3+2,none⟩=some (str E[i].2.2):=by
 obtain ⟨b',off',e,h1⟩:=h.get hi
 cases e
 exact ⟨h1 i hi 0 (by omega),h1 i hi 1 (by omega),h1 i hi 2 (by omega)⟩
abbrev VT:={a:T3 // So.isT a}
instance:Inhabited VT:=⟨⟨(1,[97],[]),by show Tm.isT (1,[97],[])=true;kernel_rfl⟩⟩
def encV (a:VT):List Value:=tm3 a.1
def cfV (a b:VT):Int:=So.cT a.1 b.1
theorem vt_len (a:VT):a.1.2.1.length≤1000000000∧a.1.2.2.length≤1000000000∧1≤a.1.1∧a.1.1≤5:=by
 have h1:=Tm.show_len a.2
 obtain ⟨n,hn,h2,h3⟩:=Tm.is_kind a.2
 have:a.1.1=n:=by exact_mod_cast hn
 exact ⟨by omega,by omega,by omega,by omega⟩
theorem vt_show (a:VT):Tm.show (a.1.1:Nat) a.1.2.1 a.1.2.2=So.sh a.1:=Tm.show_some ⟨(vt_len a).2.2.1,(vt_len a).2.2.2⟩ _ _
theorem ltV_yes {x y:VT} (h:ltOf cfV x y=true):So.cT x.1 y.1<0:=of_decide_eq_true h
theorem ltV_no {x y:VT} (h:ltOf cfV x y=false):0≤So.cT x.1 y.1:=by
 have:¬ So.cT x.1 y.1<0:=of_decide_eq_false h
 omega
theorem ltV_no' {x y:VT} (h:0≤So.cT x.1 y.1):ltOf cfV x y=false:=decide_eq_false (by show ¬ So.cT x.1 y.1<0;omega)
theorem swoV:Go.Sort.SWO (ltOf cfV) where
 irrefl x:=ltV_no' (by
  have:=So.ordT.self x.1
  omega)
 trans x y z h1 h2:=decide_eq_true (So.ordT.lt (ltV_yes h1) (ltV_yes h2))
 ntrans x y z h1 h2:=ltV_no' (by
  have b1:=ltV_no h1
  have b2:=ltV_no h2
  have a1:=So.ordT.neg x.1 y.1
  have a2:=So.ordT.neg y.1 z.1
  have a3:=So.ordT.neg x.1 z.1
  have:=So.ordT.trans z.1 y.1 x.1 (by omega) (by omega)
  omega)
theorem cmpLaysV (blk n:Nat) (w:World):CmpLays Tryz.prog 128 #[] encV 3 cfV blk 0 n w:=by
 intro m os dk hdk x y
 obtain ⟨hx1,hx2,_⟩:=vt_len x
 obtain ⟨hy1,hy2,_⟩:=vt_len y
 have:=tcmpD (x.1.1:Nat) (y.1.1:Nat) x.1.2.1 x.1.2.2 y.1.2.1 y.1.2.2 (sortWorldK encV 3 w blk 0 m dk os) hx1 hx2 hy1 hy2
 refine this.mono ?_
 rintro e w' ⟨rfl,h1,h2⟩
 exact ⟨by rw [vt_show,vt_show];rfl,grown_eq h1 h2⟩
theorem swV_block {w:World} {blk off n k:Nat} {d:Array VT} {os:Array Obj} (hk:k<w.heap.size) (hne:k≠blk):(sortWorldK encV 3 w blk off n d os).heap[k]?=w.heap[k]?:=by
 unfold sortWorldK
 rw [Go.Sort.heap_grow_old _ _ (by show k<(putRow id (Go.Sort.ahead w n) blk off _).heap.size;simp [putRow,mapBlock,Go.Sort.ahead];exact hk)]
 show (putRow id (Go.Sort.ahead w n) blk off _).heap[k]?=_
 simp only [putRow,mapBlock,Array.getElem?_modify]
 rw [if_neg (fun e=>hne e.symm)];rfl
structure Off (b:Nat) (w w':World):Prop where
 os:w'.os=w.os
 tape:w'.tape=w.tape
 output:w'.output=w.output
 size:w.heap.size≤w'.heap.size
 block:∀ k,k<w.heap.size→k≠b→w'.heap[k]?=w.heap[k]?
theorem Off.refl (b:Nat) (w:World):Off b w w:=⟨rfl,rfl,rfl,Nat.le_refl _,fun _ _ _=>rfl⟩
theorem Off.trans {b:Nat} {u v w:World} (h:Off b u v) (k:Off b v w):Off b u w:=
 ⟨k.os.trans h.os,k.tape.trans h.tape,k.output.trans h.output,Nat.le_trans h.size k.size,fun i hi hne=>(k.block i (Nat.lt_of_lt_of_le hi h.size) hne).trans (h.block i hi hne)⟩
theorem Off.below {b B:Nat} {w0 w w':World} (h:Below B w0 w) (k:Off b w w') (hB:B≤b) (hw:B≤w.heap.size):Below B w0 w':=
 h.trans ⟨k.os,k.tape,k.output,k.size,fun i hi=>k.block i (by omega) (by omega)⟩
theorem Off.drewN {b:Nat} {w w':World} (h:Off b w w') (n:Nat):Off b w (w'.drewN n):=⟨h.os,h.tape,h.output,h.size,h.block⟩
theorem Off.setCell {b o:Nat} {w w':World} (h:Off b w w') (u:Value):Off b w (w'.setCell ⟨b,o,none⟩ u):=
 h.trans ⟨rfl,rfl,rfl,by simp [World.setCell],fun k hk hne=>Below.heap_setCell _ _ _ _ hne⟩
theorem Off.alloc {b:Nat} {w w':World} (h:Off b w w') (o:Obj):Off b w (w'.alloc o):=
 h.trans ⟨rfl,rfl,rfl,by simp,fun k hk _=>Below.heap_alloc _ _ _ hk⟩
theorem sortV_off (w:World) (blk n:Nat) (d:Array VT) (os:Array Obj):Off blk w (sortWorldK encV 3 w blk 0 n d os):=
 ⟨rfl,rfl,rfl,size_sortWorldK_c encV 3 w blk 0 n d os,fun k hk hne=>swV_block hk hne⟩
theorem sort_terms (blk cap:Nat) (d:Array VT) (w:World) (hl:d.size≤1000000) (hH:HoldsK encV 3 w blk 0 d) (hblk:blk<w.heap.size) :
  Calls Tryz.prog 127 #[.slice (some ⟨blk,0,none⟩) d.size cap,.func (.func 128) #[] #[]] w fun e w'=>e=.returned (.tuple #[])∧∃ d':Array VT,d'.size=d.size∧d'.toList.Perm d.toList∧(d'.toList.map (·.1)).Pairwise (fun a b=>So.cT a b≤0)∧HoldsK encV 3 w' blk 0 d'∧Off blk w w':=by
 have h:=AnyQ.slices_SortFunc_total Tryz.sortTerms 3 Tryz.isAgg61 Tryz.sizeOf61 encV (fun _=>rfl) (fun x v hv=>tm3_one x.1 v hv) cfV swoV 128 #[] blk 0 cap d w (enters_of Tryz.func128 (by kernel_rfl) rfl) (cmpLaysV blk d.size w) hH hblk (by omega) (fun x y h1 h2=>by
  have b1:=ltV_no h1
  have b2:=ltV_no h2
  have:=So.ordT.neg x.1 y.1
  exact Subtype.ext (So.ordT.zero _ _ x.2 y.2 (by omega)))
 change Calls Tryz.prog 127 _ _ _ at h
 refine h.mono ?_
 rintro e w' ⟨rfl,n,os,rfl⟩
 have hp:=List.mergeSort_perm d.toList (fun x y=>!(ltOf cfV) y x)
 have hs:(d.toList.mergeSort fun x y=>!(ltOf cfV) y x).toArray.size=d.size:=by simp
 refine ⟨rfl,_,hs,hp,?_,holdsK_sortWorldK_c encV 3 w blk 0 d _ n os hH hblk hs,sortV_off _ _ _ _ _⟩
 rw [List.pairwise_map]
 refine List.Pairwise.imp (fun {a b} h=>?_) (List.pairwise_mergeSort (le:=fun x y=>!(ltOf cfV) y x) (fun a b c h1 h2=>?_) (fun a b=>?_) d.toList)
 · have hb:=ltV_no (by simpa using h:ltOf cfV b a=false)
   have:=So.ordT.neg a.1 b.1
   omega
 · exact by
    have a1:ltOf cfV b a=false:=by simpa using h1
    have a2:ltOf cfV c b=false:=by simpa using h2
    simpa using swoV.ntrans c b a a2 a1
 · cases h1:ltOf cfV b a with
   | false=>simp [h1]
   | true=>
    have b1:=ltV_yes h1
    have:=So.ordT.neg a.1 b.1
    have h2:ltOf cfV a b=false:=ltV_no' (by omega)
    simp [h2]
theorem term_row:61<Tryz.prog.types.size:=of_decide_eq_true (by kernel_rfl)
theorem term_wide:(match Tryz.prog.underlying 61 with | some (.array _ _) | some (.struct _)=>true | _=>false)=true:=by kernel_rfl
theorem term_keyed:Maps.Keyed Tryz.prog 61:=Maps.Keyed.of_law (deep_law_laid laid_out (m:=4) (by omega) term_row (by kernel_rfl) term_wide)
theorem key_typeT:Tryz.prog.keyType 61=true:=by kernel_rfl
def tmKey (a:T3):Lit:=.string (keyBytes [.int .i64 (a.1:Nat),.string a.2.1,.string a.2.2])
theorem key_term (k:Int) (t x:List UInt8) (hk:(Lit.int .i64 k).wf=true) (ht:t.length≤maxLen) (hx:x.length≤maxLen) :
  keyOf Tryz.prog 61 (tmV k t x)=some (.string (keyBytes [.int .i64 k,.string t,.string x])):=by
 obtain ⟨d,hd⟩:∃ d,Tryz.prog.types.size+1=d+2:=⟨Tryz.prog.types.size-1,by
  have:3≤Tryz.prog.types.size:=of_decide_eq_true (by kernel_rfl)
  omega⟩
 have e:=keyLits_term d k t x hk ht hx
 have hf:(tmV k t x).formed Tryz.prog 61=true:=by
  have c4:=cells_term
  have u:=Tryz.underlying61
  simp [Value.formed,u,c4]
 have u:=Tryz.underlying61
 unfold keyOf
 rw [u]
 simp only
 rw [key_typeT,hf,hd]
 have ec:(tmV k t x).cells.toList=[.int .i64 k,str t,str x]:=by simp [Value.cells]
 rw [ec,e]
 rfl
def okT (a:T3):Prop:=a.1≤5∧a.2.1.length≤100000000∧a.2.2.length≤100000000
theorem tmKey_key {a:T3} (h:okT a):keyOf Tryz.prog 61 (tmv a)=some (tmKey a):=
 key_term _ _ _ (wf_small h.1) (by have:=h.2.1;unfold maxLen;omega) (by have:=h.2.2;unfold maxLen;omega)
theorem tmKey_inj {a b:T3} (ha:okT a) (hb:okT b) (h:tmKey a=tmKey b):a=b:=by
 have e:=term_keyed.inj (tmKey_key ha) (h ▸ tmKey_key hb)
 obtain ⟨a1,a2,a3⟩:=a
 obtain ⟨b1,b2,b3⟩:=b
 simp only [Value.agg.injEq,Array.mk.injEq,List.cons.injEq,Value.int.injEq,true_and,and_true,Int.natCast_inj] at e
 obtain ⟨e1,e2,e3⟩:=e
 rw [e1,str_inj e2,str_inj e3]
theorem ok_is {a:T3} (h:So.isT a):okT a:=by
 have h1:=Tm.show_len h
 obtain ⟨n,hn,h2,h3⟩:=Tm.is_kind h
 have:a.1=n:=by exact_mod_cast hn
 exact ⟨by omega,by omega,by omega⟩
def numD (E:List T3) (i:Nat):DataW Unit:=(E.take i).zipIdx.foldl (fun D p=>D.put (tmKey p.1) (.lit (.int .i64 ((p.2+1:Nat):Int)))) (.map [])
theorem numD_succ (E:List T3) (i:Nat) (h:i<E.length):numD E (i+1)=(numD E i).put (tmKey E[i]) (.lit (.int .i64 ((i+1:Nat):Int))):=by
 unfold numD
 rw [List.take_succ_eq_append_getElem h,List.zipIdx_append,List.foldl_append]
 have:(E.take i).length=i:=by rw [List.length_take];omega
 simp [this]
theorem numD_map (E:List T3):∀ i,i≤E.length→Maps.IsMap (numD E i)
 | 0,_=>⟨[],rfl⟩
 | i+1,h=>by rw [numD_succ E i (by omega)];exact (numD_map E i (by omega)).put _ _
theorem numD_at {E:List T3} (hn:E.Nodup) (hE:∀ a∈E,okT a) {t:T3} (ht:okT t):∀ i,i≤E.length →
  (numD E i).atKey (tmKey t) (.lit (.int .i64 0))=.lit (.int .i64 ((if t∈E.take i then So.num E t else 0:Nat):Int))
 | 0,_=>rfl
 | i+1,h=>by
  have ih:=numD_at hn hE ht i (by omega)
  have hi:i<E.length:=by omega
  rw [numD_succ E i hi,List.take_succ_eq_append_getElem hi]
  by_cases e:t=E[i]
  · have hk:WideAt.IsKeyLit (tmKey t):=term_keyed.key (tmKey_key ht)
    rw [←e,Maps.atKey_put_same (numD_map E i (by omega)) hk,if_pos (by simp),e,So.num_at hn hi]
  · rw [Maps.atKey_put_other (fun h2=>e (tmKey_inj ht (hE _ (List.getElem_mem hi)) h2)),ih]
    simp only [List.mem_append,List.mem_singleton,e,or_false]
theorem numD_all {E:List T3} (hn:E.Nodup) (hE:∀ a∈E,okT a) {t:T3} (ht:okT t):(numD E E.length).atKey (tmKey t) (.lit (.int .i64 0))=.lit (.int .i64 (So.num E t:Nat)):=by
 rw [numD_at hn hE ht _ (Nat.le_refl _),List.take_length]
 by_cases h:t∈E
 · rw [if_pos h]
 · rw [if_neg h,So.num_not h]
end Go.Proofs.YtjaebndajhppgaaGreatDoor
namespace Go.Proofs.YtjaebndajhppgaaGreatDoor
open Go.ChangeShapes Go.WideShapes Go.ChangeAt Go.RowKit Go.Sort
theorem eq_tm (a b:T3) (w:World):(binOp .eql 61 (.agg #[.int .i64 (a.1:Nat),str a.2.1,str a.2.2]) (.agg #[.int .i64 (b.1:Nat),str b.2.1,str b.2.2])).run Tryz.prog w=.ok (.bool (decide (a=b))) w:=by
 obtain ⟨k,t,x⟩:=a
 obtain ⟨k2,u,y⟩:=b
 by_cases h1:k=k2 <;> by_cases h2:t=u <;> by_cases h3:x=y
 all_goals
  simp [go_sem,h1,h2,h3] <;> omega
theorem ne_tm (a b:T3) (w:World):(binOp .neq 61 (.agg #[.int .i64 (a.1:Nat),str a.2.1,str a.2.2]) (.agg #[.int .i64 (b.1:Nat),str b.2.1,str b.2.2])).run Tryz.prog w=.ok (.bool (!decide (a=b))) w:=by
 obtain ⟨k,t,x⟩:=a
 obtain ⟨k2,u,y⟩:=b
 by_cases h1:k=k2 <;> by_cases h2:t=u <;> by_cases h3:x=y
 all_goals
  simp [go_sem,h1,h2,h3] <;> omega
def RowT (w:World) (b:Nat) (E:List T3):Prop:=∀ i (h:i<E.length) c,c<3→w.cell? ⟨b,i*3+c,none⟩=(tm3 E[i])[c]?∧w.frozen? ⟨b,i*3+c,none⟩=false
theorem RowT.at {w:World} {b:Nat} {E:List T3} (h:RowT w b E) {i:Nat} (hi:i<E.length) {a:T3} (ha:E[i]=a) :
  w.cell? ⟨b,i*3,none⟩=some (.int .i64 (a.1:Nat))∧w.cell? ⟨b,i*3+1,none⟩=some (str a.2.1)∧w.cell? ⟨b,i*3+2,none⟩=some (str a.2.2):=by
 subst ha
 exact ⟨(h i hi 0 (by omega)).1,(h i hi 1 (by omega)).1,(h i hi 2 (by omega)).1⟩
theorem RowT.fz {w:World} {b:Nat} {E:List T3} (h:RowT w b E) {i:Nat} (hi:i<E.length) :
  w.frozen? ⟨b,i*3,none⟩=false∧w.frozen? ⟨b,i*3+1,none⟩=false∧w.frozen? ⟨b,i*3+2,none⟩=false:=
 ⟨(h i hi 0 (by omega)).2,(h i hi 1 (by omega)).2,(h i hi 2 (by omega)).2⟩
theorem RowT.drewN {w:World} {b:Nat} {E:List T3} (h:RowT w b E) (n:Nat):RowT (w.drewN n) b E:=h
theorem nec {i j:Nat} (b:Nat) (h:i≠j):(⟨b,i,none⟩:Addr)≠⟨b,j,none⟩:=fun e=>h (by cases e;rfl)
theorem sc_other {w:World} {b i j:Nat} {u:Value} (h:i≠j):(w.setCell ⟨b,i,none⟩ u).cell? ⟨b,j,none⟩=w.cell? ⟨b,j,none⟩:=World.cell?_setCell_other w _ _ u (nec b h)
theorem RowT.set {w:World} {b k:Nat} {E:List T3} (h:RowT w b E) (hk:k<E.length) (a:T3) :
  RowT (((w.setCell ⟨b,k*3,none⟩ (.int .i64 (a.1:Nat))).setCell ⟨b,k*3+1,none⟩ (str a.2.1)).setCell ⟨b,k*3+2,none⟩ (str a.2.2)) b (E.set k a):=by
 intro i hi c hc
 rw [List.length_set] at hi
 obtain ⟨h1,h2⟩:=h i hi c hc
 refine ⟨?_,by simp only [World.frozen?_setCell];exact h2⟩
 by_cases e:k=i
 · subst e
   rw [List.getElem_set_self]
   obtain ⟨a0,a1,a2⟩:=h.at hk rfl
   rcases Rg.c3 hc with rfl | rfl | rfl
   · refine (sc_other (by omega)).trans ((sc_other (by omega)).trans ?_)
     exact World.cell?_setCell_same _ _ _ a0
   · refine (sc_other (by omega)).trans ?_
     exact World.cell?_setCell_same _ _ _ (u:=str E[k].2.1) ((sc_other (by omega)).trans a1)
   · exact World.cell?_setCell_same _ _ _ (u:=str E[k].2.2) ((sc_other (by omega)).trans ((sc_other (by omega)).trans a2))
 · rw [List.getElem_set_ne e]
   exact (sc_other (by omega)).trans ((sc_other (by omega)).trans ((sc_other (by omega)).trans h1))
theorem RowT.terms {w:World} {b cap n:Nat} {E F:List T3} (h:RowT w b E) (hF:F=E.take n) (hn:n≤E.length) (hc:E.length≤cap) (hm:cap≤maxLen):TermsAt w (.slice (some ⟨b,0,none⟩) n cap) F:=by
 subst hF
 have hl:(E.take n).length=n:=by rw [List.length_take];omega
 refine ⟨some ⟨b,0,none⟩,cap,by rw [hl],by omega,hm,(fun h=>by cases h),Or.inr ⟨b,0,rfl,fun i hi c hc=>?_⟩⟩
 rw [hl] at hi
 rw [List.getElem_take,Nat.zero_add]
 exact (h i (by omega) c hc).1
def CpAt (E A:List T3) (m k:Nat):Prop:=A.length=E.length∧A.take k=So.cp E m∧k=(So.cp E m).length∧∀ j,m≤j+1→A[j]?=E[j]?
theorem CpAt.start {E:List T3} {m:Nat} (hm:m≤E.length) (hd:∀ i,0<i→i<m→E[i]?≠E[i-1]?):CpAt E E m m:=by
 have e:=So.cp_take m hm hd
 exact ⟨rfl,e.symm,by rw [e,List.length_take];omega,fun j _=>rfl⟩
theorem CpAt.skip {E A:List T3} {m k:Nat} (h:CpAt E A m k) (hm:0<m) (he:E[m]?=E[m-1]?):CpAt E A (m+1) k:=by
 obtain ⟨h1,h2,h3,h4⟩:=h
 have e:=So.cp_old hm he
 exact ⟨h1,by rw [e];exact h2,by rw [e];exact h3,fun j hj=>h4 j (by omega)⟩
theorem CpAt.keep {E A:List T3} {m k:Nat} (h:CpAt E A m k) (hk:k<m) (hm:m<E.length) (hne:E[m]?≠E[m-1]?) {a:T3} (ha:E[m]=a):CpAt E (A.set k a) (m+1) (k+1):=by
 obtain ⟨h1,h2,h3,h4⟩:=h
 have e:=So.cp_new hm (.inr hne)
 subst ha
 refine ⟨by rw [List.length_set];exact h1,?_,by rw [e,List.length_append,←h3];rfl,fun j hj=>?_⟩
 · rw [e,←h2,List.take_succ_eq_append_getElem (by rw [List.length_set];omega),List.take_set_of_le (Nat.le_refl _),List.getElem_set_self]
 · rw [List.getElem?_set_ne (by omega)];exact h4 j (by omega)
theorem CpAt.le {E A:List T3} {m k:Nat} (h:CpAt E A m k):k≤m:=by
 obtain ⟨_,_,h3,_⟩:=h
 rw [h3];exact So.cp_len E m
theorem cells_set {w:World} (b:Nat):∀ (vs:List Value) (o:Nat),Off b w (w.setCells b o vs):=by
 intro vs
 induction vs generalizing w with
 | nil=>intro o;exact Off.refl b w
 | cons v vs ih=>intro o;exact ((Off.refl b w).setCell v).trans (ih (o+1))
theorem clear_terms {w:World} (b o n c:Nat) (hn:0<n) (hc:∀ j,j<n*3→(w.cell? ⟨b,o+j,none⟩).isSome=true) (hf:∀ j,j<n*3→w.frozen? ⟨b,o+j,none⟩=false) :
  ∃ vs:List Value,(∀ ty,(Builtin.clear_ #[62] ty #[.slice (some ⟨b,o,none⟩) n c]).run Tryz.prog w=.ok (.tuple #[]) (w.setCells b o vs))∧vs.length=n*3:=by
 obtain ⟨vs,hvs⟩:∃ vs,vs=(Builtin.zeroCells (Value.agg #[.int .i64 0,.string ⟨#[]⟩,.string ⟨#[]⟩]).cells n).toList:=⟨_,rfl⟩
 have hl:vs.length=n*3:=by rw [hvs];simp [Builtin.zeroCells,Value.cells]
 have h1:∀ v∈vs,v.oneCell'=true:=by
  intro v hv
  rw [hvs] at hv
  simp only [Builtin.zeroCells,Value.cells,Array.toList_map,List.mem_map] at hv
  obtain ⟨j,_,rfl⟩:=hv
  rcases Rg.c3 (Nat.mod_lt j (by decide:0<3)) with e | e | e <;> simp [e] <;> rfl
 have hst:=run_storeCells_cells (P:=Tryz.prog) b o vs 0 w (by simpa [hl] using hc) (by simpa [hl] using hf) h1
 simp only [Nat.add_zero] at hst
 refine ⟨vs,fun ty=>?_,hl⟩
 obtain ⟨m,rfl⟩:∃ m,n=m+1:=⟨n-1,by omega⟩
 have hz:=Tryz.zeroValue61
 simp [Builtin.clear_,run_underlying Tryz.underlying62,hz,←hvs,hst]
theorem compact_any (b cap:Nat) (E:List T3) (w:World) (hR:RowT w b E) (hcap:E.length≤cap) (hm:cap≤maxLen) (hn:E.length≤1000000) :
  Calls Tryz.prog 129 #[.slice (some ⟨b,0,none⟩) E.length cap] w fun e w'=>e=.returned (.slice (some ⟨b,0,none⟩) (So.cp E E.length).length cap)∧TermsAt w' (.slice (some ⟨b,0,none⟩) (So.cp E E.length).length cap) (So.cp E E.length)∧Off b w w':=by
 obtain ⟨R,hR0⟩:∃ R,R=So.cp E E.length:=⟨_,rfl⟩
 have HRR:=hid hR0
 rw [←hR0]
 obtain ⟨n,hn0⟩:∃ n,n=E.length:=⟨_,rfl⟩
 have HN:=hid hn0
 have HR:=hid hR
 have HALL:=hid (show (∀ i,0<i→i<n→E[i]?≠E[i-1]?)→∀ q,R.length=n∧TermsAt (w.drewN q) (.slice (some ⟨b,0,none⟩) R.length cap) R∧Off b w (w.drewN q) from fun hd q=>by
  have e:=So.cp_take (l:=E) E.length (Nat.le_refl _) (by rw [←hn0];exact hd)
  rw [hR0,e,List.take_length,←hn0]
  exact ⟨rfl,(hR.drewN q).terms (n:=n) (by rw [hn0,List.take_length]) (by omega) hcap hm,(Off.refl b w).drewN q⟩)
 have HCAP:=hid (And.intro hcap hm)
 rw [←hn0] at hn hcap ⊢
 clear hR hm hn0 hR0
 by_cases h2:n<2
 · have hA:=hid (HALL.out (fun i h1 h3=>by omega) 0)
   have hz:(n:Int)<2:=by omega
   clear h2 hcap hn
   go_enter Tryz.func129,Tryz.ntmps129
   go_wp2
   go_ret
   exact ⟨by rw [←hA.out.1];rfl,hA.out.2⟩
 · have hz:¬ (n:Int)<2:=by omega
   go_enter Tryz.func129,Tryz.ntmps129
   go_wp2
   go_loopg [3] n (fun g s3 wr=>∃ k q:Nat,1≤k∧k≤n∧n-k≤g∧s3=.int .i64 k∧wr=w.drewN q∧Hid (∀ i,0<i→i<k→E[i]?≠E[i-1]?))
   case atStart=>exact ⟨1,0,Nat.le_refl _,by omega,by omega,rfl,rfl,fun i h1 h3=>by omega⟩
   case round=>
    obtain ⟨k,q,hk1,hk,hg,rfl,rfl,HD⟩:=hrel
    by_cases hlt:k<n
    · have hkl:k<E.length:=by rw [←HN.out];exact hlt
      obtain ⟨x,hx⟩:∃ x,E[k]=x:=⟨_,rfl⟩
      obtain ⟨y,hy⟩:∃ y,E[k-1]'(by omega)=y:=⟨_,rfl⟩
      have HX:=hid (show E[k]?=some x by rw [List.getElem?_eq_getElem hkl,hx])
      have HY:=hid (show E[k-1]?=some y by rw [List.getElem?_eq_getElem (by omega),hy])
      obtain ⟨c0,c1,c2⟩:=HR.out.at hkl hx
      obtain ⟨d0,d1,d2⟩:=HR.out.at (i:=k-1) (by omega) hy
      have EQ:=eq_tm x y
      have HDX:=hid (show (x=y)↔E[k]?=E[k-1]? by rw [HX.out,HY.out];simp)
      clear hx hy hkl
      by_cases hxy:x=y
      · have hb:decide (x=y)=true:=decide_eq_true hxy
        rw [hb] at EQ
        have HS:=hid (HDX.out.1 hxy)
        clear hb hxy HDX HX HY
        go_wp2_with fail
        go_region
        go_wp2
        clear c0 c1 c2 d0 d1 d2 EQ
        have HST:=hid (show CpAt E E (k+1) k from (CpAt.start (by rw [←HN.out];omega) HD.out).skip (by omega) HS.out)
        clear HS
        go_loopg [3,5] n (fun g s3 s5 wr=>∃ (kk j q2:Nat) (A:List T3),s3=.int .i64 kk∧s5=.int .i64 j∧1≤j∧k+j≤n∧n-(k+j)≤g∧kk<k+j∧Hid (RowT wr b A)∧Hid (Off b w wr)∧Hid (CpAt E A (k+j) kk))
        case atStart=>exact ⟨k,1,q+1,E,rfl,rfl,Nat.le_refl _,by omega,by omega,by omega,HR.out.drewN _,(Off.refl b w).drewN _,HST.out⟩
        case round=>
         obtain ⟨kk,j,q2,A,rfl,rfl,h1,hle,hg2,hkk,HRA,HO,HC⟩:=hrel
         have hAl:A.length=n:=by rw [HC.out.1,←HN.out]
         by_cases hlt2:k+j<n
         · obtain ⟨x2,hx⟩:∃ x,E[k+j]'(by rw [←HN.out];exact hlt2)=x:=⟨_,rfl⟩
           obtain ⟨y2,hy⟩:∃ y,E[k+j-1]'(by rw [←HN.out];omega)=y:=⟨_,rfl⟩
           have HX:=hid (show E[k+j]?=some x2 by rw [List.getElem?_eq_getElem (by rw [←HN.out];exact hlt2),hx])
           have HY:=hid (show E[k+j-1]?=some y2 by rw [List.getElem?_eq_getElem (by rw [←HN.out];omega),hy])
           have hax:A[k+j]'(by omega)=x2:=by
            have:=HC.out.2.2.2 (k+j) (by omega)
            rw [HX.out,List.getElem?_eq_getElem (by omega)] at this;exact Option.some.inj this
           have hay:A[k+j-1]'(by omega)=y2:=by
            have:=HC.out.2.2.2 (k+j-1) (by omega)
            rw [HY.out,List.getElem?_eq_getElem (by omega)] at this;exact Option.some.inj this
           obtain ⟨c0,c1,c2⟩:=HRA.out.at (by omega) hax
           obtain ⟨d0,d1,d2⟩:=HRA.out.at (by omega) hay
           rw [show (k+j)*3=k*3+j*3 by omega] at c0 c1 c2
           rw [show (k+j-1)*3=k*3+(j-1)*3 by omega] at d0 d1 d2
           have NE:=ne_tm x2 y2
           have HDX:=hid (show (x2=y2)↔E[k+j]?=E[k+j-1]? by rw [HX.out,HY.out];simp)
           have HX2:=hid hx
           clear hx hy hax hay hAl
           by_cases hxy:x2=y2
           · have hb:decide (x2=y2)=true:=decide_eq_true hxy
             rw [hb] at NE
             have HS:=hid (HDX.out.1 hxy)
             clear hb hxy HDX HX HY HX2
             go_wp2_with fail
             go_region
             go_wp2
             go_roundg (n-(k+(j+1)))
             case measure=>omega
             case rel=>exact ⟨kk,j+1,q2+1,A,rfl,by go_num,by omega,by omega,Nat.le_refl _,by omega,HRA.out.drewN 1,HO.out.drewN 1,HC.out.skip (by omega) HS.out⟩
           · have hb:decide (x2=y2)=false:=decide_eq_false hxy
             rw [hb] at NE
             have HS:=hid (fun h=>hxy (HDX.out.2 h))
             have hkA:kk<A.length:=by rw [HC.out.1,←HN.out];omega
             obtain ⟨o,ho⟩:∃ o,A[kk]=o:=⟨_,rfl⟩
             obtain ⟨e0,e1,e2⟩:=HRA.out.at hkA ho
             obtain ⟨f0,f1,f2⟩:=HRA.out.fz hkA
             have HK:=hid hkA
             clear hb hxy HDX HX HY hkA ho
             go_wp2_with fail
             go_region
             go_wp2
             go_roundg (n-(k+(j+1)))
             case measure=>omega
             case rel=>exact ⟨kk+1,j+1,q2+1,A.set kk x2,by go_num,by go_num,by omega,by omega,Nat.le_refl _,by omega,HRA.out.set HK.out x2,(((HO.out.setCell _).setCell _).setCell _).drewN 1,HC.out.keep hkk (by rw [←HN.out];exact hlt2) HS.out HX2.out⟩
         · have hkj:k+j=n:=by omega
           have hCL:=HC.out
           rw [show k+j=E.length by rw [←HN.out];exact hkj] at hCL
           obtain ⟨q1,q2',q3,_⟩:=hCL
           have HT:=hid (fun (W:World) (h:RowT W b (A.take kk))=>(show TermsAt W (.slice (some ⟨b,0,none⟩) kk cap) R from by
            have e:=HRR.out
            rw [←q2'] at e
            exact h.terms (n:=kk) (by rw [e,List.take_take,Nat.min_self]) (by rw [List.length_take];omega) (by rw [List.length_take];have:=HCAP.out.1;omega) HCAP.out.2))
           have HL:=hid (show R.length=kk by rw [HRR.out];exact q3.symm)
           obtain ⟨vs,hcl,hvl⟩:∃ vs:List Value,(∀ ty,(Builtin.clear_ #[62] ty #[.slice (some ⟨b,kk*3,none⟩) (n-kk) (cap-kk)]).run Tryz.prog wr=.ok (.tuple #[]) (wr.setCells b (kk*3) vs))∧vs.length=(n-kk)*3:=by
            have hc:∀ j,j<(n-kk)*3→(wr.cell? ⟨b,kk*3+j,none⟩).isSome=true∧wr.frozen? ⟨b,kk*3+j,none⟩=false:=by
             intro j hj
             obtain ⟨a1,a2⟩:=HRA.out (kk+j / 3) (by omega) (j % 3) (Nat.mod_lt _ (by decide))
             rw [show (kk+j / 3)*3+j % 3=kk*3+j by omega] at a1 a2
             exact ⟨by rw [a1,tm3_get _ _ (Nat.mod_lt _ (by decide))];rfl,a2⟩
            exact clear_terms b (kk*3) (n-kk) (cap-kk) (by omega) (fun j hj=>(hc j hj).1) fun j hj=>(hc j hj).2
           have HTT:=hid (HT.out (wr.setCells b (kk*3) vs) (by
            intro i hi c hc
            rw [List.length_take] at hi
            obtain ⟨a1,a2⟩:=HRA.out i (by omega) c hc
            rw [List.getElem_take,World.frozen?_setCells]
            refine ⟨?_,a2⟩
            rw [←a1]
            exact World.cell?_setCells_out b vs _ wr ⟨b,i*3+c,none⟩ (fun _ _=>.inl (by show i*3+c<kk*3;omega))))
           have HOO:=hid (HO.out.trans (cells_set (w:=wr) b vs (kk*3)))
           clear hvl q1 q2' q3
           go_wp2
           go_ret
           exact ⟨by rw [HL.out];rfl,by rw [HL.out];exact HTT.out,HOO.out⟩
      · have hb:decide (x=y)=false:=decide_eq_false hxy
        rw [hb] at EQ
        have HS:=hid (fun h=>hxy (HDX.out.2 h))
        clear hb hxy HDX HX HY
        go_wp2_with fail
        go_region
        go_wp2
        go_roundg (n-(k+1))
        case measure=>omega
        case rel=>exact ⟨k+1,q+1,by omega,by omega,Nat.le_refl _,by go_num,rfl,fun i h1 h3=>by
         by_cases e:i=k
         · subst e;exact HS.out
         · exact HD.out i h1 (by omega)⟩
    · obtain rfl:k=n:=by omega
      have hA:=hid (HALL.out HD.out q)
      go_wp2
      go_ret
      exact ⟨by rw [←hA.out.1];rfl,hA.out.2⟩
end Go.Proofs.YtjaebndajhppgaaGreatDoor
