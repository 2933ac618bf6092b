/-WkMath-/
import Derived.Test.YtockbaekcbeenaaGreatDoorMkHd0
import Derived.WalkKit
set_option linter.unusedVariables false
namespace Go.Proofs.YtockbaekcbeenaaGreatDoor.Wk
abbrev Sp:=Nat×Nat
abbrev Mv:=Nat×List (List Nat)
structure Net where
 n:Nat
 mv:List (List Mv)
 st:List Bool
 en:List Bool
def via (m:Mv) (v:Nat):List Sp:=(m.2.getD v []).map fun u=>(m.1,u)
def Net.succ (k:Net) (s:Sp):List Sp:=(k.mv.getD s.1 []).flatMap fun m=>via m s.2
inductive Net.R (k:Net) (a:Nat):Sp→Prop
 | start {p:Nat}:k.st.getD p false=true→Net.R k a (p,a)
 | step {s t:Sp}:Net.R k a s→t∈k.succ s→Net.R k a t
structure Net.Ok (k:Net) (P D:Nat):Prop where
 Vo:k.mv.length=P
 Hf:k.st.length=P
 Vp:k.en.length=P
 zL:∀ p,(k.mv.getD p []).length≤D∧∀ m∈k.mv.getD p [],m.1<P∧m.2.length=k.n+1∧∀ v,(m.2.getD v []).length≤D∧∀ u∈m.2.getD v [],1≤u∧u≤k.n
def Net.In (k:Net) (P:Nat) (s:Sp):Prop:=s.1<P∧1≤s.2∧s.2≤k.n
theorem Vq {k:Net} {P D:Nat} (h:k.Ok P D) {p:Nat} {m:Mv} (hm:m∈k.mv.getD p []) {v:Nat} {t:Sp} (ht:t∈via m v):k.In P t:=by obtain ⟨h1,h2,h3⟩:=(h.zL p).2 m hm;unfold via at ht;obtain ⟨u,hu,rfl⟩:=List.mem_map.1 ht;exact ⟨h1,(h3 v).2 u hu⟩
theorem Vr {k:Net} {P D:Nat} (h:k.Ok P D) {s t:Sp} (ht:t∈k.succ s):k.In P t:=by unfold Net.succ at ht;obtain ⟨m,hm,h2⟩:=List.mem_flatMap.1 ht;exact Vq h hm h2
theorem Vs {k:Net} {P D:Nat} (h:k.Ok P D) {p:Nat} {m:Mv} (hm:m∈k.mv.getD p []) (v:Nat):(via m v).length≤D:=by unfold via;rw [List.length_map];exact (((h.zL p).2 m hm).2.2 v).1
theorem nW {α β:Type} {f:α→List β} {D:Nat}:∀ (l:List α),(∀ a∈l,(f a).length≤D)→(l.flatMap f).length≤l.length*D
 | [],_=>aH
 | a::l,h=>by
  have i:=nW l fun b hb=>h b (by simp [hb])
  have j:=h a aH
  rw [List.flatMap_cons,List.length_append,List.length_cons,Nat.add_mul,Nat.one_mul];omega
theorem Vt {k:Net} {P D:Nat} (h:k.Ok P D) (s:Sp):(k.succ s).length≤D*D:=
 Nat.le_trans (nW _ fun m hm=>Vs h hm s.2) (Nat.mul_le_mul_right _ (h.zL s.1).1)
theorem Vu {k:Net} {P D:Nat} (h:k.Ok P D) {a:Nat} (ha:1≤a∧a≤k.n) {s:Sp} (hs:k.R a s):k.In P s:=by
 induction hs with
 | start hp=>refine ⟨?_,ha⟩;rcases Nat.lt_or_ge _ k.st.length with hl | hl;{rw [←h.Hf];exact hl};{rw [List.getD,List.getElem?_eq_none hl] at hp;cases hp}
 | step _ ht _=>exact Vr h ht
structure Inv (k:Net) (a:Nat) (M:Nat→Nat→Bool) (L:List Sp):Prop where
 rest:∀ s∈L,k.R a s
 seen:∀ p v,M p v=true→k.R a (p,v)
 start:∀ p,k.st.getD p false=true→M p a=true∨(p,a)∈L
 next:∀ p v,M p v=true→∀ t∈k.succ (p,v),M t.1 t.2=true∨t∈L
def mark (M:Nat→Nat→Bool) (p v:Nat):Nat→Nat→Bool:=fun a b=>if a=p∧b=v then true else M a b
theorem Dg (M:Nat→Nat→Bool) (p v:Nat):mark M p v p v=true:=by simp [mark]
theorem Dh {M:Nat→Nat→Bool} {p v a b:Nat} (h:M a b=true):mark M p v a b=true:=by simp [mark,h]
theorem Di {M:Nat→Nat→Bool} {p v a b:Nat} (h:mark M p v a b=true):(a=p∧b=v)∨M a b=true:=by unfold mark at h;split at h;{exact Or.inl ‹_›};{exact Or.inr h}
def starts (st:List Bool) (a i:Nat):List Sp:=((List.range i).filter fun p=>st.getD p false).map fun p=>(p,a)
theorem Vv (st:List Bool) (a i:Nat):starts st a (i+1)=starts st a i++if st.getD i false then [(i,a)] else []:=by unfold starts;rw [List.range_succ,List.filter_append,List.map_append];cases h:st.getD i false <;> simp only [List.filter_cons,List.filter_nil,h] <;> rfl
theorem MS (st:List Bool) (a i:Nat):(starts st a i).length≤i:=by unfold starts;rw [List.length_map];exact Nat.le_trans (List.length_filter_le _ _) aH
theorem Vw (k:Net) (a:Nat):Inv k a (fun _ _=>false) (starts k.st a k.st.length) where
 rest:=fun s hs=>by
  unfold starts at hs
  obtain ⟨p,hp,rfl⟩:=List.mem_map.1 hs
  exact .start (List.mem_filter.1 hp).2
 seen:=fun p v h=>by cases h
 start:=fun p hp=>Or.inr (List.mem_map.2 ⟨p,List.mem_filter.2 ⟨List.mem_range.2 (by
  rcases Nat.lt_or_ge p k.st.length with hl | hl
  · exact hl
  · rw [List.getD,List.getElem?_eq_none hl] at hp;cases hp),hp⟩,rfl⟩)
 next:=fun p v h=>by cases h
theorem Vx {k:Net} {a:Nat} {M:Nat→Nat→Bool} {L:List Sp} {s:Sp} (h:Inv k a M (L++[s])) (hs:M s.1 s.2=true):Inv k a M L where
 rest:=fun t ht=>h.rest t (List.mem_append_left _ ht)
 seen:=h.seen
 start:=fun p hp=>by
  rcases h.start p hp with h1 | h1
  · exact Or.inl h1
  · rcases List.mem_append.1 h1 with h2 | h2
    · exact Or.inr h2
    · have e:=List.mem_singleton.1 h2;subst e;exact Or.inl hs
 next:=fun p v hp t ht=>by
  rcases h.next p v hp t ht with h1 | h1
  · exact Or.inl h1
  · rcases List.mem_append.1 h1 with h2 | h2
    · exact Or.inr h2
    · have e:=List.mem_singleton.1 h2;subst e;exact Or.inl hs
theorem Vy {k:Net} {a:Nat} {M:Nat→Nat→Bool} {L:List Sp} {p v:Nat} (h:Inv k a M (L++[(p,v)])):Inv k a (mark M p v) (L++k.succ (p,v)) where
 rest:=fun t ht=>by
  rcases List.mem_append.1 ht with h1 | h1
  · exact h.rest t (List.mem_append_left _ h1)
  · exact .step (h.rest (p,v) aH) h1
 seen:=fun a' b hm=>by
  rcases Di hm with ⟨rfl,rfl⟩ | h1
  · exact h.rest _ aH
  · exact h.seen _ _ h1
 start:=fun q hq=>by
  rcases h.start q hq with h1 | h1
  · exact Or.inl (Dh h1)
  · rcases List.mem_append.1 h1 with h2 | h2
    · exact Or.inr (List.mem_append_left _ h2)
    · obtain ⟨rfl,rfl⟩:=Prod.mk.inj (List.mem_singleton.1 h2);exact Or.inl (Dg _ _ _)
 next:=fun q u hm t ht=>by
  rcases Di hm with ⟨rfl,rfl⟩ | h1
  · exact Or.inr (List.mem_append_right _ ht)
  · rcases h.next q u h1 t ht with h2 | h2
    · exact Or.inl (Dh h2)
    · rcases List.mem_append.1 h2 with h3 | h3
      · exact Or.inr (List.mem_append_left _ h3)
      · have e:=List.mem_singleton.1 h3;subst e;exact Or.inl (Dg _ _ _)
theorem Vz {k:Net} {a:Nat} {M:Nat→Nat→Bool} (h:Inv k a M []) {s:Sp} (hs:k.R a s):M s.1 s.2=true:=by
 induction hs with
 | start hp=>exact (h.start _ hp).resolve_right aH
 | step _ ht ih=>exact (h.next _ _ ih _ ht).resolve_right aH
def left (M:Nat→Nat→Bool) (P n:Nat):Nat:=((List.range P).map fun p=>((List.range (n+1)).filter fun v=>!M p v).length).sum
theorem VB {M:Nat→Nat→Bool} {p v n:Nat} (hv:v≤n) (hm:M p v=false):((List.range (n+1)).filter fun b=>!mark M p v p b).length+1=((List.range (n+1)).filter fun b=>!M p b).length:=by
 have hsplit:List.range (n+1)=List.range v++v::(List.range (n-v)).map fun i=>v+1+i:=by refine List.ext_getElem (by simp;omega) fun i h1 h2=>?_;simp only [List.getElem_range];rcases Nat.lt_trichotomy i v with h | h | h;{rw [List.getElem_append_left (by simpa using h)];simp};{subst h;rw [List.getElem_append_right aH];simp};{rw [List.getElem_append_right (by simp;omega)];rw [List.getElem_cons];rw [dif_neg (by simp;omega)];simp;omega}
 have e1:(List.range v).filter (fun b=>!mark M p v p b)=(List.range v).filter fun b=>!M p b:=List.filter_congr fun b hb=>by have:=List.mem_range.1 hb;simp [mark,show ¬ b=v by omega]
 have e2:(((List.range (n-v)).map fun i=>v+1+i)).filter (fun b=>!mark M p v p b)=(((List.range (n-v)).map fun i=>v+1+i)).filter fun b=>!M p b:=List.filter_congr fun b hb=>by obtain ⟨i,_,rfl⟩:=List.mem_map.1 hb;simp [mark,show ¬ v+1+i=v by omega]
 rw [hsplit,List.filter_append,List.filter_append,e1];simp only [List.filter_cons,Dg,hm,e2,Bool.not_true,Bool.not_false,if_true,List.length_append,List.length_cons];simp;omega
theorem MU {f g:Nat→Nat} {p:Nat}:∀ P,p<P→(∀ q,q≠p→f q=g q)→f p+1=g p→((List.range P).map f).sum+1=((List.range P).map g).sum
 | 0,h,_,_=>ay
 | P+1,h,he,h1=>by
  rw [List.range_succ,List.map_append,List.map_append,List.sum_append,List.sum_append]
  simp only [List.map_cons,List.map_nil,List.sum_cons,List.sum_nil]
  by_cases hp:p=P
  · subst hp
    have:((List.range p).map f)=((List.range p).map g):=List.map_congr_left fun q hq=>he q (by have:=List.mem_range.1 hq;omega)
    rw [this];omega
  · have i:=MU P ay he h1
    have:=he P ay
    omega
theorem VD {M:Nat→Nat→Bool} {P n p v:Nat} (hp:p<P) (hv:v≤n) (hm:M p v=false):left (mark M p v) P n+1=left M P n:=by unfold left;refine MU (p:=p) P hp (fun q hq=>?_) (VB hv hm);exact congrArg List.length (List.filter_congr fun b _=>by simp [mark,hq])
theorem MV {f:Nat→Nat} {c:Nat} (h:∀ q,f q≤c):∀ P,((List.range P).map f).sum≤P*c
 | 0=>by simp
 | P+1=>by
  have i:=MV h P
  have j:=h P
  rw [List.range_succ,List.map_append,List.sum_append,Nat.add_mul,Nat.one_mul]
  simp;omega
theorem VE (M:Nat→Nat→Bool) (P n:Nat):left M P n≤P*(n+1):=MV (fun q=>Nat.le_trans (List.length_filter_le _ _) aH) P
def todo (M:Nat→Nat→Bool) (P n D:Nat) (L:Nat):Nat:=left M P n*(D*D+1)+L
theorem MW (M:Nat→Nat→Bool) (P n D L:Nat):L≤todo M P n D L:=Nat.le_add_left _ _
theorem VF (M:Nat→Nat→Bool) (P n D L:Nat):todo M P n D L+1=todo M P n D (L+1):=rfl
theorem VG {M:Nat→Nat→Bool} {P n p v D L K:Nat} (hp:p<P) (hv:v≤n) (hm:M p v=false) (hK:K≤D*D):todo (mark M p v) P n D (L+K)<todo M P n D (L+1):=by unfold todo;rw [←VD hp hv hm,Nat.add_mul,Nat.one_mul];omega
theorem VH {M:Nat→Nat→Bool} {P n D L:Nat} (hP:P≤32) (hn:n≤1000) (hD:D≤10000) (hL:L≤32):todo M P n D L≤4000000000000:=by unfold todo;have h1:=VE M P n;have h2:P*(n+1)≤32*1001:=Nat.mul_le_mul hP ay;have h3:D*D≤10000*10000:=Nat.mul_le_mul hD hD;have h4:left M P n*(D*D+1)≤32032*100000001:=Nat.mul_le_mul ay ay;omega
end Go.Proofs.YtockbaekcbeenaaGreatDoor.Wk
