/-GTm1-/
import Derived.Test.YtockbaekcbeenaaGreatDoorMkHd1
import Derived.Test.YtockbaekcbeenaaGreatDoorMkGB
import Derived.WalkLawsBesides
import Derived.WalkSpells
import Derived.WalkKit
import Derived.Lib.SplitLaws
import Derived.Lib.Bytealg
import Derived.Lib.TrimUEq
import Derived.Lib.ValidLaws
set_option linter.unusedVariables false
set_option maxRecDepth 100000
set_option linter.unusedSimpArgs false
namespace Go.Proofs.YtockbaekcbeenaaGreatDoor
open Go.Proofs.Tryz
open Go.ChangeShapes Go.WideShapes Go.ChangeAt Go.RowKit
abbrev aA (l:List UInt8):Value:=.string ⟨l.toArray⟩
theorem nY (l:List UInt8) (n:Nat) (c:UInt8) (h:l[n]?=some c) (p:n<(⟨l.toArray⟩:ByteArray).size):(⟨l.toArray⟩:ByteArray)[n]=c:=by obtain ⟨h1,h2⟩:=List.getElem?_eq_some_iff.1 h;show l.toArray[n]=c;simpa using h2
theorem u_ (l:List UInt8) (a b:Nat):(⟨l.toArray⟩:ByteArray).extract a b=⟨((l.drop a).take (b-a)).toArray⟩:=by apply ByteArray.ext;rw [ByteArray.data_extract];apply Array.ext';simp [List.extract_eq_take_drop]
theorem V8 (l:List UInt8) (n:Nat):(⟨l.toArray⟩:ByteArray).extract 0 n=⟨(l.take n).toArray⟩:=by rw [u_];simp
theorem V9 (l:List UInt8) (n:Nat):(⟨l.toArray⟩:ByteArray).extract n l.length=⟨(l.drop n).toArray⟩:=by rw [u_,←List.length_drop,List.take_length]
theorem Hq (s:ByteArray):Value.string s=aA s.data.toList:=by simp [aA]
theorem str_inj {a b:List UInt8} (h:aA a=aA b):a=b:=by simpa [aA] using h
abbrev iA (W:World) (v:Value) (L:List (List UInt8)):Prop:=dQ aA [] W v L
section
variable {H:Type} {enc:TypeId×Value→H} {W:World}
variable {base:Nat} {t s e:TypeId} {v:Value} {d:DataW H} {p:List MemPlace}
end
end Go.Proofs.YtockbaekcbeenaaGreatDoor
namespace Go.Proofs.YtockbaekcbeenaaGreatDoor.Tm
open Go
def parts (c:UInt8):List UInt8→List (List UInt8)
 | []=>[[]]
 | b::t=>if b=c then []::parts c t else (b::(parts c t).headD [])::(parts c t).tail
theorem Hr (c:UInt8):∀ l,parts c l≠[]
 | []=>by simp [parts]
 | b::t=>by unfold parts;split <;> simp
theorem Ht (c:UInt8):∀ l,(parts c l).length=l.count c+1
 | []=>by simp [parts]
 | b::t=>by
  have ih:=Ht c t
  unfold parts
  by_cases h:b=c
  · subst h;simp [ih]
  · rw [if_neg h,List.count_cons_of_ne (by simpa using h)]
    simp only [List.length_cons,List.length_tail,ih]
    omega
theorem M7 {b c:UInt8} {l:List UInt8} (h:b≠c):Lib.index (b::l) [c]=if Lib.index l [c] == -1 then -1 else Lib.index l [c]+1:=by
 have hp:([c]:List UInt8).isPrefixOf (b::l)=false:=by simp [List.isPrefixOf,Ne.symm h]
 rw [Lib.index,hp];simp
theorem M8 (c:UInt8) (l:List UInt8):Lib.index (c::l) [c]=0:=by rw [Lib.index];simp [List.isPrefixOf]
theorem M9 (c:UInt8):∀ l,Lib.splitK [c] 0 (l.count c) l=parts c l
 | []=>by simp [Lib.splitK,parts]
 | b::t=>by
  have ih:=M9 c t
  by_cases h:b=c
  · subst h
    rw [List.count_cons_self,Lib.splitK,M8]
    simp [parts,ih]
  · rw [List.count_cons_of_ne (by simpa using h)]
    unfold parts
    rw [if_neg h,←ih]
    have ix:=M7 (l:=t) h
    cases hk:t.count c with
    | zero=>simp [Lib.splitK]
    | succ k=>
     rw [Lib.splitK,Lib.splitK,ix]
     by_cases hm:Lib.index t [c] = -1
     · simp [hm]
     · have hge:=Lib.index_ge t [c]
       obtain ⟨j,hj⟩:∃ j:Nat,Lib.index t [c]=j:=⟨(Lib.index t [c]).toNat,ay⟩
       have e1:((j:Int) == -1)=false:=by simp <;> omega
       have e2:((j:Int)+1 == -1)=false:=by simp <;> omega
       have e3:((j:Int)+1).toNat=j+1:=ay
       rw [hj]
       simp [e1,e2,e3]
theorem V_ (c:UInt8) (l:List UInt8):Lib.split l [c]=parts c l:=by unfold Lib.split;rw [Lib.count_one,M9]
def small (c:UInt8):Bool:=decide (97≤c.toNat) && decide (c.toNat≤122)
def digit (c:UInt8):Bool:=decide (48≤c.toNat) && decide (c.toNat≤57)
def mH (d:Bool) (p:List UInt8):Bool:=decide (1≤p.length) && decide (p.length≤8) && p.all (fun c=>small c || (d && digit c))
def vg (d:Bool):List (List UInt8)→Bool
 | []=>true
 | p::r=>mH d p && r.all (mH true)
def pass:Bool→Nat→List UInt8→Bool
 | d,n,[]=>decide (1≤n)
 | d,n,c::t=>if c=45∧1≤n then pass true 0 t else if small c || (digit c && d) then (if 8<n+1 then false else pass d (n+1) t) else false
def lang (s:List UInt8):Bool:=pass false 0 s && decide (s.length≤16)
theorem Hu:∀ (s:List UInt8) (d:Bool) (n:Nat),n≤8 →
  pass d n s=(decide (1≤n+((parts 45 s).headD []).length) && decide (n+((parts 45 s).headD []).length≤8) && ((parts 45 s).headD []).all (fun c=>small c || (d && digit c)) && (parts 45 s).tail.all (mH true))
 | [],d,n,hn=>by
  simp [pass,parts,hn]
 | c::t,d,n,hn=>by
  have hne:=Hr 45 t
  by_cases h:c=45
  · subst h
    have hs:small 45=false:=aL
    have hd:digit 45=false:=aL
    unfold pass
    by_cases h1:1≤n
    · rw [if_pos ⟨rfl,h1⟩,Hu t true 0 ay]
      obtain ⟨p,r,e⟩:∃ p r,parts 45 t=p::r:=by
       cases hp:parts 45 t with
       | nil=>exact absurd hp hne
       | cons p r=>exact ⟨p,r,rfl⟩
      have:parts 45 ((45:UInt8)::t)=[]::parts 45 t:=by simp [parts]
      rw [this,e]
      simp [mH,h1,hn]
    · have hn0:n=0:=ay
      subst hn0
      simp [parts,hs,hd]
  · have hp:parts 45 (c::t)=(c::(parts 45 t).headD [])::(parts 45 t).tail:=by simp [parts,h]
    rw [hp]
    unfold pass
    rw [if_neg (fun e=>h e.1)]
    by_cases hc:(small c || (digit c && d))=true
    · rw [if_pos hc]
      have hc':(small c || (d && digit c))=true:=by rw [Bool.and_comm d];exact hc
      by_cases h8:8<n+1
      · rw [if_pos h8]
        have hx:decide (n+((parts 45 t).headD []).length+1≤8)=false:=by simp;omega
        have hy:n+(((parts 45 t).headD []).length+1)=n+((parts 45 t).headD []).length+1:=ay
        simp only [List.headD_cons,List.length_cons,hy,hx,Bool.and_false,Bool.false_and]
      · rw [if_neg h8,Hu t d (n+1) ay]
        have hy:n+1+((parts 45 t).headD []).length=n+(((parts 45 t).headD []).length+1):=ay
        simp only [List.headD_cons,List.length_cons,List.all_cons,hc',Bool.true_and,List.tail_cons,hy]
        rfl
    · rw [if_neg hc]
      have hc':(small c || (d && digit c))=false:=by rw [Bool.and_comm d];simpa using hc
      simp only [List.headD_cons,List.all_cons,hc',Bool.false_and,Bool.and_false]
theorem Wd (s:List UInt8):lang s=(decide (s.length≤16) && vg false (parts 45 s)):=by
 unfold lang;rw [Hu s false 0 ay];cases hp:parts 45 s with
 | nil=>exact absurd hp (Hr 45 s)
 | cons p r=>simp only [List.headD_cons,List.tail_cons,vg,mH,Nat.zero_add];rw [Bool.and_comm]
open Go.RowKit
abbrev T:=List UInt8
abbrev lt (a b:T):Bool:=Op.bytesLess a b
theorem Dl (a:T):lt a []=false:=by cases a <;> rfl
theorem M_ (b:UInt8) (y:T):lt [] (b::y)=true:=rfl
theorem zO (a b:UInt8) (x y:T):lt (a::x) (b::y)=(decide (a<b) || (a==b && lt x y)):=rfl
theorem lt_irrefl:∀ a:T,lt a a=false
 | []=>rfl
 | a::x=>by
  rw [zO,lt_irrefl x]
  simp
theorem lt_trans:∀ {a b c:T},lt a b=true→lt b c=true→lt a c=true
 | _,_,[],_,h=>by rw [Dl] at h;cases h
 | _,[],_::_,h,_=>by rw [Dl] at h;cases h
 | [],_::_,_::_,_,_=>rfl
 | a::x,b::y,c::z,h1,h2=>by
  rw [zO] at *
  simp only [Bool.or_eq_true,decide_eq_true_eq,Bool.and_eq_true,beq_iff_eq] at *
  rcases h1 with h1 | ⟨rfl,h1⟩
  · rcases h2 with h2 | ⟨rfl,h2⟩
    · exact .inl (UInt8.lt_trans h1 h2)
    · exact .inl h1
  · rcases h2 with h2 | ⟨rfl,h2⟩
    · exact .inl h2
    · exact .inr ⟨rfl,lt_trans h1 h2⟩
theorem zP:∀ {a b:T},lt a b=false→lt b a=false→a=b
 | [],[],_,_=>rfl
 | [],_::_,h,_=>by cases h
 | _::_,[],_,h=>by cases h
 | a::x,b::y,h1,h2=>by
  rw [zO] at *
  simp only [Bool.or_eq_false_iff,decide_eq_false_iff_not,Bool.and_eq_false_iff,beq_eq_false_iff_ne,ne_eq] at *
  obtain ⟨h1,h3⟩:=h1
  obtain ⟨h2,h4⟩:=h2
  have e:a=b:=UInt8.le_antisymm (UInt8.not_lt.1 h2) (UInt8.not_lt.1 h1)
  subst e
  simp only [not_true_eq_false,false_or] at h3 h4
  rw [zP h3 h4]
theorem lt_asymm {a b:T} (h:lt a b=true):lt b a=false:=by
 cases h2:lt b a with
 | false=>rfl
 | true=>have:=lt_trans h h2;rw [lt_irrefl] at this;cases this
theorem Wh {a b c:T} (h1:lt a b=true) (h2:lt c b=false):lt a c=true:=by
 cases h:lt b c with
 | true=>exact lt_trans h1 h
 | false=>rw [←zP h h2];exact h1
def cmp (a b:T):Int:=if lt a b then -1 else if lt b a then 1 else 0
theorem Na:∀ a b:T,Lib.compareBytes a b=cmp a b
 | [],[]=>by simp [Lib.compareBytes,cmp,Dl]
 | [],_::_=>by simp [Lib.compareBytes,cmp,M_]
 | _::_,[]=>by simp [Lib.compareBytes,cmp,Dl,M_]
 | a::x,b::y=>by
  unfold Lib.compareBytes
  rw [Na x y]
  unfold cmp
  rw [zO,zO]
  by_cases h1:a<b
  · simp [h1]
  · by_cases h2:b<a
    · have:¬ a=b:=fun e=>by subst e;exact h1 h2
      simp [h1,h2,this]
    · have:a=b:=UInt8.le_antisymm (UInt8.not_lt.1 h2) (UInt8.not_lt.1 h1)
      subst this
      simp [h1]
theorem nZ {a b:T}:cmp a b=0↔a=b:=by
 constructor
 · intro h;unfold cmp at h;cases h1:lt a b with
   | true=>simp [h1] at h
   | false=>
    cases h2:lt b a with
    | true=>simp [h1,h2] at h
    | false=>exact zP h1 h2
 {rintro rfl;simp [cmp,lt_irrefl]}
theorem j_ (a b:T):cmp b a = - cmp a b:=by
 unfold cmp;cases h1:lt a b with
 | true=>simp [lt_asymm h1]
 | false=>cases h2:lt b a <;> simp
theorem Wi {a b:T}:cmp a b≤0↔lt b a=false:=by
 unfold cmp;cases h1:lt a b with
 | true=>simp [lt_asymm h1]
 | false=>cases h2:lt b a <;> simp
theorem zQ {a b c:T} (h1:cmp a b≤0) (h2:cmp b c≤0):cmp a c≤0:=by
 rw [Wi] at *;cases h:lt c a with
 | false=>rfl
 | true=>have:=Wh h h1;rw [h2] at this;cases this
def gU (n:Nat):UInt8:=if n<10 then (48+n).toUInt8 else (55+n).toUInt8
def esc (c:UInt8):List UInt8:=
 if c=34∨c=92 then [92,c] else if c=10 then [92,110] else if c=13 then [92,114] else if c=9 then [92,116] else if c=8 then [92,98] else if c=12 then [92,102]
 else if c.toNat<32∨c=127 then [92,117,48,48,gU (c.toNat / 16),gU (c.toNat % 16)] else [c]
def bL (s:T):T:=s.flatMap esc
theorem zR (c:UInt8) (s:T):bL (c::s)=esc c++bL s:=rfl
theorem Nb (s t:T):bL (s++t)=bL s++bL t:=by simp [bL]
theorem Wj (c:UInt8):1≤(esc c).length∧(esc c).length≤6:=by
 unfold esc;repeat' split
 all_goals simp
theorem n_:∀ s:T,s.length≤(bL s).length∧(bL s).length≤6*s.length
 | []=>by simp [bL]
 | c::s=>by
  have:=n_ s
  have:=Wj c
  rw [zR,List.length_append,List.length_cons]
  omega
theorem Nc (c:UInt8) (h1:32≤c.toNat) (h2:c≠127) (h3:c≠34) (h4:c≠92):esc c=[c]:=by
 unfold esc;have e1:c≠10:=fun e=>by subst e;revert h1;decide
 have e2:c≠13:=fun e=>by subst e;revert h1;decide
 have e3:c≠9:=fun e=>by subst e;revert h1;decide
 have e4:c≠8:=fun e=>by subst e;revert h1;decide
 have e5:c≠12:=fun e=>by subst e;revert h1;decide
 have e6:¬ c.toNat<32:=ay;simp [h2,h3,h4,e1,e2,e3,e4,e5,e6]
def aO (k:Nat) (t x:T):T:=
 if k=1 then 60::(t++[62]) else if k=2 then 95::58::t else if k=3 then 34::(bL t++[34])
 else if k=4 then 34::(bL t++34::64::x) else if k=5 then 34::(bL t++34::94::94::60::(x++[62])) else []
def kL (c:UInt8):Option Nat:=
 if 48≤c.toNat∧c.toNat≤57 then some (c.toNat-48) else if 97≤c.toNat∧c.toNat≤102 then some (c.toNat-87) else if 65≤c.toNat∧c.toNat≤70 then some (c.toNat-55) else none
def fQ:Nat→T→Nat→Option Nat
 | 0,_,x=>some x
 | _+1,[],_=>none
 | n+1,c::t,x=>match kL c with
  | none=>none
  | some d=>fQ n t (x*16+d)
def dR (n:Nat) (s:T):Option Nat:=match fQ n s 0 with
 | none=>none
 | some x=>if 1114111<x∨(55296≤x∧x≤57343) then none else some x
def kg (x:Nat):T:=(Utf8.encode (x:Int)).data.toList
def letter (c:UInt8):Option UInt8:=
 if c=34 then some 34 else if c=92 then some 92 else if c=110 then some 10 else if c=114 then some 13 else if c=116 then some 9 else if c=98 then some 8 else if c=102 then some 12 else if c=39 then some 39 else none
def kM (lit:Bool):T→Option (T×Nat)
 | []=>none
 | c::t=>if c=117 then (dR 4 t).map (fun x=>(kg x,5)) else if c=85 then (dR 8 t).map (fun x=>(kg x,9)) else if lit then (letter c).map (fun d=>([d],1)) else none
def up:Nat→UInt8→Bool→T→Option (T×T)
 | 0,_,_,_=>none
 | _+1,_,_,[]=>none
 | f+1,e,lit,c::t=>if c=e then some ([],t) else if c=92 then (match kM lit t with
    | none=>none
    | some (x,n)=>(up f e lit (t.drop n)).map (fun r=>(x++r.1,r.2)))
  else if c=10∨c=13 then none else (up f e lit t).map (fun r=>(c::r.1,r.2))
theorem Dm (e:UInt8) (lit:Bool):∀ (s rest:T) (f:Nat),s.length+1≤f→(∀ c∈s,c≠e∧c≠92∧c≠10∧c≠13)→up f e lit (s++e::rest)=some (s,rest)
 | [],rest,f,hf,_=>by
  obtain ⟨g,rfl⟩:∃ g,f=g+1:=⟨f-1,by simp at hf;omega⟩
  simp [up]
 | c::s,rest,f,hf,h=>by
  obtain ⟨g,rfl⟩:∃ g,f=g+1:=⟨f-1,by simp at hf;omega⟩
  have hc:=h c aH
  rw [List.cons_append,up,Dm e lit s rest g (by simp at hf;omega) (fun d hd=>h d (by simp [hd]))]
  simp [hc]
set_option maxRecDepth 100000 in
theorem Nf:∀ n:Fin 16,kL (gU n.val)=some n.val:=aL
set_option maxRecDepth 100000 in
theorem Wm:∀ x:Fin 128,kg x.val=[x.val.toUInt8]:=aL
theorem Wn {x:Nat} (h:x<128):kg x=[x.toUInt8]:=Wm ⟨x,h⟩
theorem Wo {c:UInt8} (h:c.toNat<128) (rest:T):dR 4 (48::48::gU (c.toNat / 16)::gU (c.toNat % 16)::rest)=some c.toNat:=by have e0:kL 48=some 0:=aL;have e1:=Nf ⟨c.toNat / 16,ay⟩;have e2:=Nf ⟨c.toNat % 16,ay⟩;simp only at e1 e2;simp only [dR,fQ,e0,e1,e2];rw [if_neg ay];congr 1;omega
theorem Wp (c:UInt8) (s:T) (f:Nat):up (f+1) 34 true (esc c++s)=(up f 34 true s).map (fun r=>(c::r.1,r.2)):=by
 unfold esc;split;{rename_i h;rcases h with rfl | rfl <;> simp [up,kM,letter]};split;{rename_i h;subst h;simp [up,kM,letter]};split;{rename_i h;subst h;simp [up,kM,letter]};split;{rename_i h;subst h;simp [up,kM,letter]};split;{rename_i h;subst h;simp [up,kM,letter]};split;{rename_i h;subst h;simp [up,kM,letter]};split
 · rename_i h;have hl:c.toNat<128:=by rcases h with h | rfl;{omega};{decide}
   have e1:=Wo hl s;have e2:=Wn hl;have e3:c.toNat.toUInt8=c:=aH;simp [up,kM,e1,e2,e3]
 {rename_i h1 h2 h3 h4 h5 h6 h7;have a1:c≠34:=fun e=>h1 (.inl e);have a2:c≠92:=fun e=>h1 (.inr e);simp [up,a1,a2,h2,h3]}
theorem zT:∀ (s rest:T) (f:Nat),s.length+1≤f→up f 34 true (bL s++34::rest)=some (s,rest)
 | [],rest,f,hf=>by
  obtain ⟨g,rfl⟩:∃ g,f=g+1:=⟨f-1,by simp at hf;omega⟩
  simp [up,bL]
 | c::s,rest,f,hf=>by
  obtain ⟨g,rfl⟩:∃ g,f=g+1:=⟨f-1,by simp at hf;omega⟩
  rw [zR,List.append_assoc,Wp,zT s rest g (by simp at hf;omega)]
  rfl
def eu (c:UInt8):Bool:=small c || (decide (65≤c.toNat) && decide (c.toNat≤90)) || digit c
def lower (c:UInt8):UInt8:=if 65≤c.toNat∧c.toNat≤90 then (c.toNat+32).toUInt8 else c
def f_ (c:UInt8):Bool:=eu c || c==45
def dY (s:T):Option (Nat×T×T×T):=
 match s with
 | []=>none
 | c::r=>
  if c=60 then (up (r.length+1) 62 false r).map (fun q=>(1,q.1,[],q.2))
  else if c=95 then (if r.headD 0=58 then some (2,r.tail.takeWhile eu,[],r.tail.dropWhile eu) else none)
  else if c=34 then (match up (r.length+1) 34 true r with
   | none=>none
   | some (t,v)=>if v.headD 0=64 then some (4,t,(v.tail.takeWhile f_).map lower,v.tail.dropWhile f_)
    else if v.take 3=[94,94,60] then (up (v.length+1) 62 false (v.drop 3)).map (fun q=>(5,t,q.1,q.2))
    else some (3,t,[],v))
  else none
theorem Hw {p:UInt8→Bool}:∀ {l:T},(∀ c∈l,p c=true)→l.takeWhile p=l∧l.dropWhile p=[]
 | [],_=>⟨rfl,rfl⟩
 | c::l,h=>by
  have hc:=h c aH
  have ih:=Hw (l:=l) (fun d hd=>h d (by simp [hd]))
  simp [List.takeWhile,List.dropWhile,hc,ih.1,ih.2]
theorem xQ:∀ (s:T) (d:Bool) (n:Nat),pass d n s=true→∀ c∈s,(small c || digit c || c==45)=true
 | [],_,_,_,_,hc=>by simp at hc
 | b::t,d,n,h,c,hc=>by
  unfold pass at h
  by_cases h1:b=45∧1≤n
  · rw [if_pos h1] at h
    rcases List.mem_cons.1 hc with rfl | hc
    · simp [h1.1]
    · exact xQ t true 0 h c hc
  · rw [if_neg h1] at h
    by_cases h2:(small b || (digit b && d))=true
    · rw [if_pos h2] at h
      by_cases h3:8<n+1
      · simp [h3] at h
      · rw [if_neg h3] at h
        rcases List.mem_cons.1 hc with rfl | hc
        · cases hs:small c
          · simp [hs] at h2
            simp [h2.1]
          · simp
        · exact xQ t d (n+1) h c hc
    · rw [if_neg h2] at h;cases h
theorem Wq {c:UInt8} (h:(small c || digit c || c==45)=true):lower c=c:=by unfold lower;rw [if_neg];intro e;simp only [small,digit,Bool.or_eq_true,Bool.and_eq_true,decide_eq_true_eq,beq_iff_eq] at h;rcases h with (h | h) | h;{omega};{omega};{subst h;revert e;decide}
theorem Ng {c:UInt8} (h:(small c || digit c || c==45)=true):f_ c=true:=by unfold f_ eu;revert h;cases small c <;> cases digit c <;> cases (c==45) <;> simp
theorem Nh {s:T} (h:∀ c∈s,(small c || digit c || c==45)=true):s.map lower=s:=by
 induction s with
 | nil=>rfl
 | cons c s ih=>rw [List.map_cons,ih (fun d hd=>h d (by simp [hd])),Wq (h c aH)]
def Ni (t:T):Prop:=∀ c∈t,c≠62∧c≠92∧c≠10∧c≠13
theorem Ws {t:T} (h:Ni t):dY (aO 1 t [])=some (1,t,[],[]):=by have:=Dm 62 false t [] (t.length+1+1) ay h;simp [dY,aO,this]
theorem Wt {t:T} (h:∀ c∈t,eu c=true):dY (aO 2 t [])=some (2,t,[],[]):=by have:=Hw h;simp [dY,aO,this.1,this.2]
theorem Wu (t:T):dY (aO 3 t [])=some (3,t,[],[]):=by have hl:=n_ t;have:=zT t [] ((bL t).length+1+1) ay;simp [dY,aO,this]
theorem Ww {t x:T} (h:lang x=true):dY (aO 4 t x)=some (4,t,x,[]):=by have hb:=xQ x false 0 (by unfold lang at h;simp at h;exact h.1);have hl:=n_ t;have h1:=zT t (64::x) ((bL t++34::64::x).length+1) (by simp;omega);have h2:=Hw (p:=f_) (l:=x) (fun c hc=>Ng (hb c hc));have h3:=Nh hb;have h4:=h2.1;have h5:=h2.2;clear hb h2;simp at h1;simp [dY,aO,h1,h4,h5,h3]
theorem Wx {t x:T} (h:Ni x):dY (aO 5 t x)=some (5,t,x,[]):=by have hl:=n_ t;have h1:=zT t (94::94::60::(x++[62])) ((bL t++34::94::94::60::(x++[62])).length+1) (by simp <;> omega);have h2:=Dm 62 false x [] ((94::94::60::(x++[62])).length+1) (by simp <;> omega) h;simp at h1 h2;simp [dY,aO,h1,h2]
def iO (r:Nat):Bool:=decide (160≤r) || (decide (33≤r) && decide (r≤126) && !([34,60,62,92,94,96,123,124,125].contains r))
def lH (p:Nat→Bool):Nat→List UInt8→Bool
 | 0,_=>true
 | _+1,[]=>true
 | n+1,b::t=>p (Lib.decodeL (b::t)).1 && lH p n ((b::t).drop (Lib.decodeL (b::t)).2)
theorem zU (p:Nat→Bool):∀ n,lH p n []=true
 | 0=>rfl
 | _+1=>rfl
theorem Dn (p:Nat→Bool) (n:Nat) (l:List UInt8) (h:l≠[]):lH p (n+1) l=(p (Lib.decodeL l).1 && lH p n (l.drop (Lib.decodeL l).2)):=by
 cases l with
 | nil=>exact absurd rfl h
 | cons b t=>rfl
theorem Nj (p:Nat→Bool):∀ (n m:Nat) (l:List UInt8),l.length≤n→l.length≤m→lH p n l=lH p m l
 | 0,m,l,hn,_=>by
  have:l=[]:=List.eq_nil_of_length_eq_zero ay
  subst this
  rw [zU,zU]
 | n+1,0,l,_,hm=>by
  have:l=[]:=List.eq_nil_of_length_eq_zero ay
  subst this
  rw [zU,zU]
 | n+1,m+1,l,hn,hm=>by
  by_cases hne:l=[]
  · subst hne;rfl
  · have hw:=Lib.decodeL_width l
    have hl:0<l.length:=List.length_pos_iff.2 hne
    rw [Dn p n l hne,Dn p m l hne,Nj p n m _ (by rw [List.length_drop];omega) (by rw [List.length_drop];omega)]
theorem Nk (n b0 b1 b2 b3:Nat):(2≤(Lib.decodeN n b0 b1 b2 b3).2→b1 / 64=2)∧(3≤(Lib.decodeN n b0 b1 b2 b3).2→b2 / 64=2)∧(4≤(Lib.decodeN n b0 b1 b2 b3).2→b3 / 64=2)∧(Lib.decodeN n b0 b1 b2 b3).2≤4:=by
 unfold Lib.decodeN;repeat' split
 all_goals simp_all
theorem Hy (p:Nat→Bool):∀ (n:Nat) (l:List UInt8),l.length≤n→lH p n l=true→∀ c∈l,c.toNat<128→p c.toNat=true
 | 0,l,hn,_,c,hc,_=>by
  have:l=[]:=List.eq_nil_of_length_eq_zero ay
  subst this
  simp at hc
 | n+1,[],_,_,c,hc,_=>by simp at hc
 | n+1,b::t,hn,h,c,hc,hl=>by
  have hw:=Lib.decodeL_width (b::t)
  rw [Dn p n _ aH,Bool.and_eq_true] at h
  by_cases hb:b.toNat<128
  · have hd:=Lib.decodeL_ascii b t hb
    rw [hd] at h
    rcases List.mem_cons.1 hc with rfl | hc
    · exact h.1
    · exact Hy p n t (by simp at hn;omega) (by simpa using h.2) c hc hl
  · have hs:=List.take_append_drop (Lib.decodeL (b::t)).2 (b::t)
    rw [←hs] at hc
    rcases List.mem_append.1 hc with hc | hc
    · exfalso
      obtain ⟨k,hk,e⟩:=List.mem_iff_getElem.1 hc
      have xR:k<(Lib.decodeL (b::t)).2:=by rw [List.length_take] at hk;omega
      have hkl:k<(b::t).length:=by rw [List.length_take] at hk;omega
      have e2:(b::t).getD k 0=c:=by
       rw [←e,List.getElem_take]
       rw [List.getD,List.getElem?_eq_getElem hkl]
       rfl
      have ht:=Nk (b::t).length ((b::t).getD 0 0).toNat ((b::t).getD 1 0).toNat ((b::t).getD 2 0).toNat ((b::t).getD 3 0).toNat
      rw [←Lib.decodeL_N] at ht
      obtain ⟨t1,t2,t3,t4⟩:=ht
      have:k=0∨k=1∨k=2∨k=3:=ay
      rcases this with rfl | rfl | rfl | rfl
      · simp at e2;subst e2;exact hb hl
      · have:=t1 ay;rw [e2] at this;omega
      · have:=t2 ay;rw [e2] at this;omega
      · have:=t3 ay;rw [e2] at this;omega
    · exact Hy p n _ (by rw [List.length_drop];simp at hn hw ⊢;omega) h.2 c hc hl
def fF (s:List UInt8):Bool:=decide (1≤s.length) && decide (s.length≤60) && Lib.validD s && lH iO s.length s
theorem xS {s:List UInt8} (h:fF s=true):∀ c∈s,c≠62∧c≠92∧c≠10∧c≠13:=by intro c hc;unfold fF at h;simp only [Bool.and_eq_true] at h;have hp:=Hy iO s.length s aG h.2 c hc;refine ⟨?_,?_,?_,?_⟩ <;> (rintro rfl;exact absurd (hp aL) aL)
end Go.Proofs.YtockbaekcbeenaaGreatDoor.Tm
namespace Go.Proofs.YtockbaekcbeenaaGreatDoor
open Go.Proofs.Tryz
open Go.ChangeShapes Go.WideShapes Go.ChangeAt Go.RowKit
theorem Nl (c:UInt8) (w:World) :
  Calls prog 201 #[.int .u8 (c.toNat:Nat)] w fun e w'=>e=.returned (.bool (Tm.small c))∧w'=w:=by unfold Tm.small;go_enter func201,ntmps201;by_cases h1:97≤c.toNat;{by_cases h2:c.toNat≤122;{go_wp2;go_ret;exact ⟨by simp [h1,h2] <;> omega,rfl⟩};{have h3:122<c.toNat:=ay;go_wp2;go_ret;exact ⟨by simp [h1,h2] <;> omega,rfl⟩}};{have h3:c.toNat<97:=ay;go_wp2;go_ret;exact ⟨by simp [h1],rfl⟩}
theorem Nn (c:UInt8) (w:World) :
  Calls prog 202 #[.int .u8 (c.toNat:Nat)] w fun e w'=>e=.returned (.bool (Tm.digit c))∧w'=w:=by unfold Tm.digit;go_enter func202,ntmps202;by_cases h1:48≤c.toNat;{by_cases h2:c.toNat≤57;{go_wp2;go_ret;exact ⟨by simp [h1,h2] <;> omega,rfl⟩};{have h3:57<c.toNat:=ay;go_wp2;go_ret;exact ⟨by simp [h1,h2] <;> omega,rfl⟩}};{have h3:c.toNat<48:=ay;go_wp2;go_ret;exact ⟨by simp [h1],rfl⟩}
theorem Dp {p:List UInt8} {f:UInt8→Bool} {n:Nat} {c:UInt8} (h:(p.take n).all f=true) (hc:p[n]?=some c) (hf:f c=true):(p.take (n+1)).all f=true:=by rw [List.take_add_one,hc,List.all_append,h];simp [hf]
theorem Hz {p:List UInt8} {f:UInt8→Bool} {n:Nat} {c:UInt8} (hc:p[n]?=some c) (hf:f c=false):p.all f=false:=by rw [List.all_eq_false];exact ⟨c,List.mem_of_getElem? hc,by simp [hf]⟩
theorem Np (p:List UInt8) (d:Bool) (w:World) (hl:p.length≤9223372036854775807) :
  Calls prog 204 #[aA p,.bool d] w fun e w'=>e=.returned (.bool (Tm.mH d p))∧w'=w:=by
 unfold Tm.mH;go_enter func204,ntmps204;by_cases h0:p=[];{subst h0;go_wp2;go_ret;exact ⟨rfl,rfl⟩};have h1:1≤p.length:=by have:=List.length_pos_iff.2 h0;omega
 have he:p.isEmpty=false:=by simpa using h0
 by_cases h8:8<p.length;{go_wp2;go_ret;exact ⟨by simp;omega,rfl⟩};go_wp2;go_loop [15] (fun s=>∃ n:Nat,n≤p.length∧(p.take n).all (fun c=>Tm.small c || (d && Tm.digit c))=true∧s=.int .i64 n) (fun s=>p.length-(intOf s).toNat)
 case atStart=>exact ⟨0,ay,aH,rfl⟩
 case round=>
  obtain ⟨n,hn,ha,rfl⟩:=hrel;by_cases hnl:n<p.length
  · obtain ⟨c,hc⟩:∃ c,p[n]?=some c:=⟨_,List.getElem?_eq_getElem hnl⟩;have hcc:=fun q=>nY p n c hc q;have HS:=aj (fun hf=>Dp (f:=fun c=>Tm.small c || (d && Tm.digit c)) ha hc hf);have HN:=aj (fun hf=>Hz (f:=fun c=>Tm.small c || (d && Tm.digit c)) hc hf);clear hc ha;cases hs:Tm.small c <;> cases d <;> cases hd:Tm.digit c;all_goals
     go_wp2_with (first
      | (go_at_call 201;refine (Nl _ _).mono ?_;rintro e w' ⟨rfl,hw⟩;rw [hw,hs])
      | (go_at_call 202;refine (Nn _ _).mono ?_;rintro e w' ⟨rfl,hw⟩;rw [hw,hd]))
    all_goals first
     | (go_round
        case rel=>exact ⟨n+1,ay,HS.out (by simp [hs,hd]),aN⟩
        case measure=>simp [intOf];omega)
     | (go_ret
        exact ⟨by rw [HN.out (by simp [hs,hd])];simp,rfl⟩)
  {have hnn:n=p.length:=ay;have HA:=aj (show p.all (fun c=>Tm.small c || (d && Tm.digit c))=true by rw [hnn,List.take_length] at ha;exact ha);clear ha;go_wp2;go_ret;exact ⟨by rw [HA.out];simp;omega,rfl⟩}
def Tm.label (p:List UInt8):Bool:=decide (1≤p.length) && decide (p.length≤8) && p.all Tm.eu
theorem Wy (p:List UInt8) (w:World) (hl:p.length≤9223372036854775807) :
  Calls prog 161 #[aA p] w fun e w'=>e=.returned (.bool (Tm.label p))∧w'=w:=by
 unfold Tm.label;go_enter func161,ntmps161;by_cases h0:p=[];{subst h0;go_wp2;go_ret;exact ⟨rfl,rfl⟩};have h1:1≤p.length:=by have:=List.length_pos_iff.2 h0;omega
 have he:p.isEmpty=false:=by simpa using h0
 by_cases h8:8<p.length;{go_wp2;go_ret;exact ⟨by simp;omega,rfl⟩};go_wp2;go_loop [14] (fun s=>∃ n:Nat,n≤p.length∧(p.take n).all Tm.eu=true∧s=.int .i64 n) (fun s=>p.length-(intOf s).toNat)
 case atStart=>exact ⟨0,ay,aH,rfl⟩
 case round=>
  obtain ⟨n,hn,ha,rfl⟩:=hrel;by_cases hnl:n<p.length
  · obtain ⟨c,hc⟩:∃ c,p[n]?=some c:=⟨_,List.getElem?_eq_getElem hnl⟩;have hcc:=fun q=>nY p n c hc q;have HS:=aj (fun hf=>Dp (f:=Tm.eu) ha hc hf);have HN:=aj (fun hf=>Hz (f:=Tm.eu) hc hf);clear hc ha;have hA:Tm.eu c=(Tm.small c || (decide (65≤c.toNat) && decide (c.toNat≤90)) || Tm.digit c):=rfl;have H:=aj hA;clear hA;cases hs:Tm.small c <;> cases hd:Tm.digit c <;> rcases (show c.toNat<65∨(65≤c.toNat∧c.toNat≤90)∨90<c.toNat by omega) with hx | ⟨hx,hy⟩ | hx
    all_goals
     go_wp2_with (first
      | (go_at_call 201;refine (Nl _ _).mono ?_;rintro e w' ⟨rfl,hw⟩;rw [hw,hs])
      | (go_at_call 202;refine (Nn _ _).mono ?_;rintro e w' ⟨rfl,hw⟩;rw [hw,hd]))
    all_goals first
     | (go_round
        case rel=>exact ⟨n+1,ay,HS.out (by rw [H.out,hs,hd];simp <;> omega),aN⟩
        case measure=>simp [intOf];omega)
     | (go_ret
        exact ⟨by rw [HN.out (by rw [H.out,hs,hd];simp <;> omega)];simp,rfl⟩)
  {have hnn:n=p.length:=ay;have HA:=aj (show p.all Tm.eu=true by rw [hnn,List.take_length] at ha;exact ha);clear ha;go_wp2;go_ret;exact ⟨by rw [HA.out];simp;omega,rfl⟩}
theorem Wz (c:UInt8) (w:World) :
  Calls prog 95 #[.int .u8 (c.toNat:Nat)] w fun e w'=>e=.returned (.bool (Tm.eu c))∧w'=w:=by
 unfold Tm.eu Tm.small Tm.digit;go_enter func95,ntmps95;rcases (show c.toNat<48∨(48≤c.toNat∧c.toNat≤57)∨(57<c.toNat∧c.toNat<65)∨(65≤c.toNat∧c.toNat≤90)∨(90<c.toNat∧c.toNat<97)∨(97≤c.toNat∧c.toNat≤122)∨122<c.toNat by omega) with h | ⟨h,h'⟩ | ⟨h,h'⟩ | ⟨h,h'⟩ | ⟨h,h'⟩ | ⟨h,h'⟩ | h;all_goals
  go_wp2
  go_ret
  refine ⟨iN ?_,rfl⟩
  rw [Bool.eq_iff_iff]
  all_goals (simp <;> omega)
theorem WB (p:List UInt8) (w:World) (hl:p.length≤9223372036854775807) :
  Calls prog 73 #[aA p] w fun e w'=>e=.returned (.bool (Tm.label p))∧w'=w:=by
 unfold Tm.label;go_enter func73,ntmps73;go_wp2;go_loop [3] (fun s=>∃ n:Nat,n≤p.length∧(p.take n).all Tm.eu=true∧s=.int .i64 n) (fun s=>p.length-(intOf s).toNat)
 case atStart=>exact ⟨0,ay,aH,rfl⟩
 case round=>
  obtain ⟨n,hn,ha,rfl⟩:=hrel;by_cases hnl:n<p.length
  · obtain ⟨c,hc⟩:∃ c,p[n]?=some c:=⟨_,List.getElem?_eq_getElem hnl⟩;have hcc:=fun q=>nY p n c hc q;have HS:=aj (fun hf=>Dp (f:=Tm.eu) ha hc hf);have HN:=aj (fun hf=>Hz (f:=Tm.eu) hc hf);clear hc ha;cases hs:Tm.eu c;all_goals
     go_wp2_with (go_at_call 95;refine (Wz _ _).mono ?_;rintro e w' ⟨rfl,hw⟩;rw [hw,hs])
    all_goals first
     | (go_round
        case rel=>exact ⟨n+1,ay,HS.out hs,aN⟩
        case measure=>simp [intOf];omega)
     | (go_ret
        exact ⟨by rw [HN.out hs];simp,rfl⟩)
  · have hnn:n=p.length:=ay;have HA:=aj (show p.all Tm.eu=true by rw [hnn,List.take_length] at ha;exact ha);clear ha;by_cases h1:1≤p.length;all_goals
     go_wp2
     go_ret
     first
      | exact ⟨rfl,rfl⟩
      | exact ⟨by rw [HA.out];refine iN ?_;rw [Bool.eq_iff_iff];simp <;> omega,rfl⟩
end Go.Proofs.YtockbaekcbeenaaGreatDoor
