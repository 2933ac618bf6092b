/-SoParseM-/
import Derived.Test.YtjaebndajhppgaaGreatDoorMlHd0
import Derived.Test.YtjaebndajhppgaaGreatDoorMlGPar
import Derived.Test.YtjaebndajhppgaaGreatDoorMlGPut2
set_option linter.unusedVariables false
set_option linter.unusedSimpArgs false
set_option maxRecDepth 100000
namespace Go.Proofs.YtjaebndajhppgaaGreatDoor
open Go.ChangeShapes Go.WideShapes Go.ChangeAt Go.RowKit
theorem QG:∀ (s:List UInt8),(∀ d∈s,d≠10)→Lib.index s [10] = -1
 | [],_=>rfl
 | d::s,h=>by
  rw [Tm.CZ (h d aC),QG s (fun e he=>h e (by simp [he]))]
  rfl
theorem QH {s:List UInt8} (h:∀ d∈s,d≠10):Tm.fA s=(s,[]):=by unfold Tm.fA Lib.cut;rw [QG s h,if_neg (show ¬ (0:Int)≤-1 by decide)];rfl
theorem adj (u:List UInt8):Lib.trimSuffix (u++[13]) [13]=u:=by unfold Lib.trimSuffix;rw [if_pos (by simp [Lib.hasSuffix])];simp
theorem adk (u:List UInt8) (d:UInt8) (h:d≠13):Lib.trimSuffix (u++[d]) [13]=u++[d]:=by unfold Lib.trimSuffix;rw [if_neg];simp [Lib.hasSuffix,h,Ne.symm h]
def vN (s:List UInt8) (k:Nat):List UInt8:=if 0<k∧s[k-1]?=some 13 then s.take (k-1) else s.take k
theorem adl {s:List UInt8} {k:Nat} (hk:k<s.length) (hno:∀ d∈s.take k,d≠10) (h10:s[k]?=some 10):Tm.fA s=(vN s k,s.drop (k+1)):=by
 have e:s=s.take k++10::s.drop (k+1):=by obtain ⟨_,e⟩:=List.getElem?_eq_some_iff.1 h10;rw [←e,←List.drop_eq_getElem_cons hk,List.take_append_drop]
 have hc:Lib.cut s [10]=(s.take k,s.drop (k+1),true):=by have:=Tm.Ud (s.take k) (s.drop (k+1)) hno;rwa [←e] at this
 unfold Tm.fA;rw [hc];simp only [if_true];congr 1;unfold vN;cases k with
 | zero=>rw [if_neg aC];rfl
 | succ j=>
  have hj:j<s.length:=aj;have hs:s.take (j+1)=s.take j++[s[j]]:=by rw [List.take_add_one,List.getElem?_eq_getElem hj];rfl
  rw [hs,Nat.add_sub_cancel,List.getElem?_eq_getElem hj];by_cases oQ:s[j]=13;{rw [oQ,adj,if_pos ⟨aj,rfl⟩]};{rw [adk _ _ oQ,if_neg (by simp [oQ])]}
theorem adn {L:List TR} {t:TR} (h:t ∉ L):(Tm.put L t).length=L.length+1:=by
 have e:((L.dropWhile fun a=>decide (Tm.bO a t<0)).head?==some t)=false:=by rw [beq_eq_false_iff_ne];intro e;exact h ((List.dropWhile_sublist _).subset (List.mem_of_head? e))
 unfold Tm.put;rw [e,if_neg aH,List.length_append,List.length_cons];have:=congrArg List.length (List.takeWhile_append_dropWhile (p:=fun a=>decide (Tm.bO a t<0)) (l:=L));rw [List.length_append] at this;omega
theorem ado {l:List TR} (hl:∀ t∈l,Tm.bG t=true) {t:TR} (h:t∈l):Tm.put (Tm.eD l) t=Tm.eD l:=by refine Tm.uo (Tm.zV (Tm.zW hl) (Tm.wK hl) (hl t h)) (Tm.zW hl) fun x=>?_;rw [Tm.put_mem];constructor;{rintro (h1 | rfl);{exact h1};{exact (Tm.zX hl _).2 h}};{exact Or.inl}
theorem H_ (l:List TR) (t:TR):Tm.eD (l++[t])=Tm.put (Tm.eD l) t:=by unfold Tm.eD;rw [List.foldl_append];rfl
theorem adp {l:List TR} (hl:∀ t∈l,Tm.bG t=true) {t:TR} (h:t ∉ l):(Tm.eD (l++[t])).length=(Tm.eD l).length+1:=by rw [H_,adn];exact fun e=>h ((Tm.zX hl t).1 e)
theorem QI:∀ (m:Nat) (s:List UInt8) (n:Nat) (l:List TR),s.length≤m→(∀ t∈l,Tm.bG t=true)→l.length≤100 →
  (∀ t∈(Tm.f_ s n l).2.2,Tm.bG t=true)∧(Tm.f_ s n l).2.2.length≤100
 | m,[],n,l,_,h,h1=>⟨h,h1⟩
 | 0,c::s,n,l,hm,h,h1=>by simp at hm
 | m+1,c::s,n,l,hm,h,h1=>by
  have hne:(c::s:List UInt8)≠[]:=aC
  have hc:=Tm.wJ hne
  have ih:=QI m (Tm.fA (c::s)).2 (n+1)
  have hm2:(Tm.fA (c::s)).2.length≤m:=aj
  rw [Tm.Dy hne]
  by_cases m_:200<n+1
  · rw [if_pos m_];exact ⟨fun t ht=>(by cases ht),Nat.zero_le _⟩
  · rw [if_neg m_]
    cases ho:Tm.one (Tm.fA (c::s)).1 with
    | none=>exact ⟨fun t ht=>(by cases ht),Nat.zero_le _⟩
    | some o=>
     cases o with
     | none=>exact ih l hm2 h h1
     | some t=>
      simp only
      by_cases hin:t∈l
      · rw [if_pos hin];exact ih l hm2 h h1
      · rw [if_neg hin]
        by_cases ze:l.length=100
        · rw [if_pos ze];exact ⟨fun t ht=>(by cases ht),Nat.zero_le _⟩
        · rw [if_neg ze]
          refine ih (l++[t]) hm2 (fun x hx=>?_) (by rw [List.length_append,List.length_cons,List.length_nil];omega)
          rcases List.mem_append.1 hx with hx | hx
          · exact h x hx
          · rw [List.mem_singleton.1 hx];exact BQ ho
theorem adq {U cl cr:List UInt8} {k:Nat} (hk:k≤U.length) (hno:∀ d∈U.take k,d≠10) (hc:Tm.fA U=(cl,cr)) :
  (∃ d,U[k]?=some d∧k<U.length∧d≠10)∨(k=U.length∧U.take k=cl∧U.drop k=cr)∨(k=0∧k<U.length∧U[k]?=some 10∧U.take k=cl∧U.drop (k+1)=cr) ∨
  (∃ d,0<k∧k<U.length∧U[k]?=some 10∧U[k-1]?=some d∧d≠13∧U.take k=cl∧U.drop (k+1)=cr) ∨
  (0<k∧k<U.length∧U[k]?=some 10∧U[k-1]?=some 13∧U.take (k-1)=cl∧U.drop (k+1)=cr):=by by_cases hlt:k<U.length;{have hd:=List.getElem?_eq_getElem hlt;by_cases h10:U[k]=10;{rw [h10] at hd;rw [adl hlt hno hd] at hc;have h1:vN U k=cl:=congrArg Prod.fst hc;have h2:U.drop (k+1)=cr:=congrArg Prod.snd hc;by_cases h0:k=0;{refine .inr (.inr (.inl ⟨h0,hlt,hd,?_,h2⟩));rw [←h1,vN,if_neg aj]};{have hj:=List.getElem?_eq_getElem (show k-1<U.length by omega);by_cases oQ:U[k-1]=13;{rw [oQ] at hj;refine .inr (.inr (.inr (.inr ⟨aj,hlt,hd,hj,?_,h2⟩)));rw [←h1,vN,if_pos ⟨aj,hj⟩]};{refine .inr (.inr (.inr (.inl ⟨_,aj,hlt,hd,hj,oQ,?_,h2⟩)));rw [←h1,vN,if_neg];rintro ⟨_,e⟩;rw [hj] at e;exact oQ (Option.some.inj e)}}};{exact .inl ⟨_,hd,hlt,h10⟩}};{have e:k=U.length:=aj;refine .inr (.inl ⟨e,?_,?_⟩);{rw [e,List.take_length] at hno ⊢;rw [QH hno] at hc;exact congrArg Prod.fst hc};{rw [e,List.take_length] at hno;rw [QH hno] at hc;rw [e,List.drop_length];exact congrArg Prod.snd hc}}
theorem adr {d:UInt8} (h:d≠10):((d.toNat:Int)==10)=false:=
 beq_eq_false_iff_ne.2 fun e=>h (UInt8.toNat_inj.1 (by show d.toNat=10;omega))
theorem ads {d:UInt8} (h:d≠13):((d.toNat:Int)==13)=false:=
 beq_eq_false_iff_ne.2 fun e=>h (UInt8.toNat_inj.1 (by show d.toNat=13;omega))
theorem adt {U:List UInt8} {k:Nat} {d:UInt8} (hno:∀ e∈U.take k,e≠10) (hd:U[k]?=some d) (h:d≠10):∀ e∈U.take (k+1),e≠10:=by intro e he;rw [List.take_add_one,hd] at he;rcases List.mem_append.1 he with he | he;{exact hno e he};{have e1:e=d:=(by simpa using he);rw [e1];exact h}
end Go.Proofs.YtjaebndajhppgaaGreatDoor
