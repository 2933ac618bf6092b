/-GAu1-/
import Derived.Test.YtockbaekcbeenaaGreatDoorMkHd0
import Derived.WalkKit
import Derived.Test.YtockbaekcbeenaaGreatDoorMkGTm1
import Derived.Test.YtockbaekcbeenaaGreatDoorMkGRg3
set_option linter.unusedVariables false
set_option maxRecDepth 100000
set_option linter.unusedSimpArgs false
namespace Go.Proofs.YtockbaekcbeenaaGreatDoor.Au
open Go Go.RowKit
abbrev T:=List UInt8
structure Lb where
 back:Bool
 not:Bool
 texts:List T
deriving DecidableEq,Inhabited
abbrev S:=Bool×T
def Lb.takes (l:Lb) (s:S):Bool:=(s.1==l.back) && (l.texts.contains s.2 != l.not)
inductive Rx where
 | leaf (l:Lb)
 | seq (a b:Rx)
 | alt (a b:Rx)
 | star (a:Rx)
 | plus (a:Rx)
 | maybe (a:Rx)
namespace Rx
def bR:Rx→List Lb
 | leaf l=>[l]
 | seq a b | alt a b=>a.bR++b.bR
 | star a | plus a | maybe a=>a.bR
def n (r:Rx):Nat:=r.bR.length
def emp:Rx→Bool
 | leaf _=>false
 | seq a b=>a.emp && b.emp
 | alt a b=>a.emp || b.emp
 | star _ | maybe _=>true
 | plus a=>a.emp
def fst:Rx→Nat→Nat→Bool
 | leaf _,m,j=>decide (j=m)
 | seq a b,m,j=>a.fst m j || (a.emp && b.fst (m+a.n) j)
 | alt a b,m,j=>a.fst m j || b.fst (m+a.n) j
 | star a,m,j | plus a,m,j | maybe a,m,j=>a.fst m j
def jS:Rx→Nat→Nat→Bool
 | leaf _,m,j=>decide (j=m)
 | seq a b,m,j=>b.jS (m+a.n) j || (b.emp && a.jS m j)
 | alt a b,m,j=>a.jS m j || b.jS (m+a.n) j
 | star a,m,j | plus a,m,j | maybe a,m,j=>a.jS m j
def jT:Rx→Nat→Nat→Nat→Bool
 | leaf _,_,_,_=>false
 | seq a b,m,i,j=>a.jT m i j || b.jT (m+a.n) i j || (a.jS m i && b.fst (m+a.n) j)
 | alt a b,m,i,j=>a.jT m i j || b.jT (m+a.n) i j
 | star a,m,i,j | plus a,m,i,j=>a.jT m i j || (a.jS m i && a.fst m j)
 | maybe a,m,i,j=>a.jT m i j
theorem D6 (l:Lb):(leaf l).n=1:=rfl
theorem D7 (a b:Rx):(seq a b).n=a.n+b.n:=by simp [n,bR]
theorem D8 (a b:Rx):(alt a b).n=a.n+b.n:=by simp [n,bR]
theorem O7 (a:Rx):(star a).n=a.n:=rfl
theorem O8 (a:Rx):(plus a).n=a.n:=rfl
theorem Zb (a:Rx):(maybe a).n=a.n:=rfl
theorem vG:∀ (r:Rx) (m j:Nat),r.fst m j=true→m≤j∧j<m+r.n
 | leaf l,m,j,h=>by simp [fst] at h;simp [n,bR];omega
 | seq a b,m,j,h=>by
  have i1:=vG a m j;have i2:=vG b (m+a.n) j
  simp only [fst,Bool.or_eq_true,Bool.and_eq_true] at h
  rw [D7]
  rcases h with h | ⟨_,h⟩
  · have:=i1 h;omega
  · have:=i2 h;omega
 | alt a b,m,j,h=>by
  have i1:=vG a m j;have i2:=vG b (m+a.n) j
  simp only [fst,Bool.or_eq_true] at h
  rw [D8]
  rcases h with h | h
  · have:=i1 h;omega
  · have:=i2 h;omega
 | star a,m,j,h | plus a,m,j,h | maybe a,m,j,h=>vG a m j h
theorem tQ:∀ (r:Rx) (m j:Nat),r.jS m j=true→m≤j∧j<m+r.n
 | leaf l,m,j,h=>by simp [jS] at h;simp [n,bR];omega
 | seq a b,m,j,h=>by
  have i1:=tQ a m j;have i2:=tQ b (m+a.n) j
  simp only [jS,Bool.or_eq_true,Bool.and_eq_true] at h
  rw [D7]
  rcases h with h | ⟨_,h⟩
  · have:=i2 h;omega
  · have:=i1 h;omega
 | alt a b,m,j,h=>by
  have i1:=tQ a m j;have i2:=tQ b (m+a.n) j
  simp only [jS,Bool.or_eq_true] at h
  rw [D8]
  rcases h with h | h
  · have:=i1 h;omega
  · have:=i2 h;omega
 | star a,m,j,h | plus a,m,j,h | maybe a,m,j,h=>tQ a m j h
theorem vH:∀ (r:Rx) (m i j:Nat),r.jT m i j=true→(m≤i∧i<m+r.n)∧(m≤j∧j<m+r.n)
 | leaf l,m,i,j,h=>by simp [jT] at h
 | seq a b,m,i,j,h=>by
  have i1:=vH a m i j;have i2:=vH b (m+a.n) i j;have i3:=tQ a m i;have i4:=vG b (m+a.n) j
  simp only [jT,Bool.or_eq_true,Bool.and_eq_true] at h
  rw [D7]
  rcases h with (h | h) | ⟨h,h'⟩
  · have:=i1 h;omega
  · have:=i2 h;omega
  · have:=i3 h;have:=i4 h';omega
 | alt a b,m,i,j,h=>by
  have i1:=vH a m i j;have i2:=vH b (m+a.n) i j
  simp only [jT,Bool.or_eq_true] at h
  rw [D8]
  rcases h with h | h
  · have:=i1 h;omega
  · have:=i2 h;omega
 | star a,m,i,j,h | plus a,m,i,j,h=>by
  have i1:=vH a m i j;have i3:=tQ a m i;have i4:=vG a m j
  simp only [jT,Bool.or_eq_true,Bool.and_eq_true] at h
  show (m≤i∧i<m+a.n)∧(m≤j∧j<m+a.n)
  rcases h with h | ⟨h,h'⟩
  · exact i1 h
  · exact ⟨i3 h,i4 h'⟩
 | maybe a,m,i,j,h=>vH a m i j h
abbrev Lg:=List S→Prop
def cat (A B:Lg):Lg:=fun w=>∃ u v,w=u++v∧A u∧B v
inductive Many (A:Lg):Lg
 | nil:Many A []
 | step {u v:List S}:A u→Many A v→Many A (u++v)
def lang:Rx→Lg
 | leaf l=>fun w=>∃ s,w=[s]∧l.takes s=true
 | seq a b=>cat a.lang b.lang
 | alt a b=>fun w=>a.lang w∨b.lang w
 | star a=>Many a.lang
 | plus a=>cat a.lang (Many a.lang)
 | maybe a=>fun w=>w=[]∨a.lang w
def lab (r:Rx) (m j:Nat):Lb:=r.bR.getD (j-m) default
def kN (r:Rx) (i j:Nat):Bool:=if i=0 then r.fst 1 j else r.jT 1 i j
def bZ (r:Rx) (i:Nat):Bool:=if i=0 then r.emp else r.jS 1 i
def go (r:Rx):Nat→List S→Prop
 | i,[]=>r.bZ i=true
 | i,s::w=>∃ j,(r.kN i j=true∧(r.lab 1 j).takes s=true)∧r.go j w
def along (r:Rx) (now:Nat→Bool) (s:S):Nat→Bool:=fun j=>(List.range (1+r.n)).any (fun i=>now i && r.kN i j) && (r.lab 1 j).takes s
def ends (r:Rx) (now:Nat→Bool):Bool:=(List.range (1+r.n)).any fun i=>now i && r.bZ i
def O9 (r:Rx):(Nat→Bool)→List S→Bool
 | now,[]=>r.ends now
 | now,s::w=>r.O9 (r.along now s) w
def has (r:Rx) (w:List S):Bool:=r.O9 (fun i=>decide (i=0)) w
end Rx
open Go Go.RowKit
inductive Pt where
 | mk (k:Int) (t:T) (L:List T) (K:List Pt)
namespace Pt
instance:Inhabited Pt:=⟨.mk 0 [] [] []⟩
def kind:Pt→Int | .mk k _ _ _=>k
def text:Pt→T | .mk _ t _ _=>t
def texts:Pt→List T | .mk _ _ L _=>L
def kids:Pt→List Pt | .mk _ _ _ K=>K
theorem ind {P:Pt→Prop} (h:∀ k t L K,(∀ x∈K,P x)→P (.mk k t L K)) (x:Pt):P x:=
 Pt.rec (motive_1:=P) (motive_2:=fun K=>∀ x∈K,P x) (fun k t L K ih=>h k t L K ih) (fun x hx=>by cases hx)
  (fun a K ha hK x hx=>(List.mem_cons.1 hx).elim (fun e=>e ▸ ha) (hK x)) x
mutual
def size:Pt→Nat | .mk _ _ _ K=>1+sizes K
def sizes:List Pt→Nat | []=>0 | x::r=>x.size+sizes r
end
def gZ (k:Int):Int:=if k=1∨k=8 then 0 else if k=2∨k=5∨k=6∨k=7 then 1 else if k=3∨k=4 then 2 else -1
def txt (k:Int) (t:T) (L:List T):Bool:=
 if k=1 then L.isEmpty && Tm.fF t else if k=8 then t.isEmpty && decide (1≤L.length) && decide (L.length≤4) && L.all Tm.fF else t.isEmpty && L.isEmpty
mutual
def wf:Nat→Pt→Bool | d,.mk k t L K=>decide (d≤5) && decide ((K.length:Int)=gZ k) && txt k t L && xW (d+1) K
def xW:Nat→List Pt→Bool | _,[]=>true | d,x::r=>x.wf d && xW d r
end
def may (x:Pt):Bool:=x.wf 0 && decide (x.size≤30)
theorem vI (d:Nat):∀ K:List Pt,xW d K=true↔∀ x∈K,x.wf d=true
 | []=>by simp [xW]
 | x::r=>by simp [xW,vI d r]
theorem size_pos (x:Pt):1≤x.size:=by cases x;simp only [size];omega
theorem Zc (K:List Pt) (i:Nat) (h:i<K.length):sizes (K.take (i+1))=sizes (K.take i)+K[i].size:=by
 induction K generalizing i with
 | nil=>simp at h
 | cons a K ih=>
  cases i with
  | zero=>simp [sizes]
  | succ i=>simp only [List.take_succ_cons,sizes,List.getElem_cons_succ];rw [ih i (by simpa using h)];omega
def rx:Pt→Bool→Rx
 | .mk k t L [],b=>if k=1 then .leaf ⟨b,false,[t]⟩ else .leaf ⟨b,true,L⟩
 | .mk k t L [x],b=>if k=2 then x.rx (!b) else if k=5 then .star (x.rx b) else if k=6 then .plus (x.rx b) else .maybe (x.rx b)
 | .mk k t L (x::y::_),b=>if k=3 then (if b then .seq (y.rx b) (x.rx b) else .seq (x.rx b) (y.rx b)) else .alt (x.rx b) (y.rx b)
theorem Ah:∀ (x:Pt) (b:Bool),1≤(x.rx b).n∧(x.rx b).n≤x.size:=by
 intro x;induction x using ind with
 | h k t L K ih=>
  intro b;match K,ih with
  | [],ih=>rw [rx];simp only [size,sizes];split <;> simp [Rx.D6]
  | [x],ih=>have i1:=ih x aH b;have i2:=ih x aH (!b);rw [rx];simp only [size,sizes];split;{omega};{split;{rw [Rx.O7];omega};{split;{rw [Rx.O8];omega};{rw [Rx.Zb];omega}}}
  | x::y::r,ih=>have i1:=ih x aH b;have i2:=ih y aH b;rw [rx];simp only [size,sizes];split;{split <;> rw [Rx.D7] <;> omega};{rw [Rx.D8];omega}
end Pt
namespace Rx
end Rx
end Go.Proofs.YtockbaekcbeenaaGreatDoor.Au
namespace Go.Proofs.YtockbaekcbeenaaGreatDoor
open Go.ChangeShapes Go.WideShapes Go.ChangeAt Go.RowKit
structure aM (X:Nat→Prop) (w w':World):Prop where
 os:w'.os=w.os
 tape:w'.tape=w.tape
 output:w'.output=w.output
 size:w.heap.size≤w'.heap.size
 block:∀ k,k<w.heap.size→¬ X k→w'.heap[k]?=w.heap[k]?
theorem aM.refl (X:Nat→Prop) (w:World):aM X w w:=⟨rfl,rfl,rfl,Nat.le_refl _,fun _ _ _=>rfl⟩
theorem aM.trans {X Y:Nat→Prop} {a b c:World} (h:aM X a b) (k:aM Y b c) (Iz:∀ i,i<a.heap.size→Y i→X i):aM X a c:=
 ⟨k.os.trans h.os,k.tape.trans h.tape,k.output.trans h.output,Nat.le_trans h.size k.size,fun i hi hx=>(k.block i (Nat.lt_of_lt_of_le hi h.size) (fun hy=>hx (Iz i hi hy))).trans (h.block i hi hx)⟩
theorem aM.of_below {X:Nat→Prop} {w w':World} (h:Below w.heap.size w w'):aM X w w':=⟨h.os,h.tape,h.output,h.size,fun i hi _=>h.block i hi⟩
theorem aM.below {X:Nat→Prop} {w w':World} {B:Nat} (h:aM X w w') (hB:B≤w.heap.size) (hX:∀ k,k<B→¬ X k):Below B w w':=⟨h.os,h.tape,h.output,h.size,fun i hi=>h.block i (Nat.lt_of_lt_of_le hi hB) (hX i hi)⟩
theorem aM.alloc {X:Nat→Prop} {w w':World} (h:aM X w w') (o:Obj):aM X w (w'.alloc o):=h.trans (aM.of_below ((Below.refl _ _).alloc aG o)) (fun _ _ h=>h)
theorem aM.set {X:Nat→Prop} {w w':World} (h:aM X w w') {b:Nat} (hb:X b∨w.heap.size≤b) (i:Nat) (v:Value):aM X w (w'.setCell ⟨b,i,none⟩ v):=
 ⟨h.os,h.tape,h.output,by have:=h.size;simpa using this,fun k hk hx=>by rw [Below.heap_setCell _ _ _ _ (by show k≠b;rintro rfl;rcases hb with hb | hb;exact hx hb;omega)];exact h.block k hk hx⟩
theorem aM.drewN {X:Nat→Prop} {w w':World} (h:aM X w w') (n:Nat):aM X w (w'.drewN n):=⟨h.os,h.tape,h.output,h.size,h.block⟩
theorem aM.weaken {X Y:Nat→Prop} {w w':World} (h:aM X w w') (Iz:∀ k,k<w.heap.size→X k→Y k):aM Y w w':=⟨h.os,h.tape,h.output,h.size,fun k hk hy=>h.block k hk (fun hx=>hy (Iz k hk hx))⟩
theorem aB.aW {X:Nat→Prop} {w w':World} {b:Nat} {A:List Value} {t:TypeId} (h:aB w b A t) (hf:aM X w w') (hx:¬ X b):aB w' b A t:=by have:=h.lt;unfold aB at *;rw [hf.block b this hx];exact h
theorem aM.cell {X:Nat→Prop} {w w':World} (hf:aM X w w') {b o:Nat} {v:Value} (hx:¬ X b) (h:w.cell? ⟨b,o,none⟩=some v):w'.cell? ⟨b,o,none⟩=some v:=by rw [←h,DT (hf.block b (lt_of_cell h) hx)]
open Au
def pv (x:Pt) (v u:Value):Value:=.agg #[.int .i64 x.kind,aA x.text,v,u]
def Ai (W:World) (b o:Nat) (x:Pt) (v u:Value):Prop:=W.cell? ⟨b,o,none⟩=some (.int .i64 x.kind)∧W.cell? ⟨b,o+1,none⟩=some (aA x.text)∧W.cell? ⟨b,o+2,none⟩=some v∧W.cell? ⟨b,o+3,none⟩=some u
theorem Ai.keep {W W':World} {b o:Nat} {x:Pt} {v u:Value} (h:Ai W b o x v u) (hb:Below W.heap.size W W'):Ai W' b o x v u:=
 ⟨aD hb h.1,aD hb h.2.1,aD hb h.2.2.1,aD hb h.2.2.2⟩
inductive fT (W:World):Value→Value→Pt→Prop
 | mk (k:Int) (t:T) (L:List T) (K:List Pt) (v:Value) (a:Option Addr) (cap b off:Nat) (f g:Nat→Value)
   (hk:-9223372036854775808≤k∧k≤9223372036854775807) (ht:t.length≤140737488351232) (hL:iA W v L) (hl:∀ i,(L.getD i []).length≤140737488351232) (h1:K.length≤cap) (h2:cap≤maxLen) (h3:a=none→cap=0) (h4:0<K.length→a=some ⟨b,off,none⟩)
   (hc:∀ i (h:i<K.length),Ai W b (off+i*4) K[i] (f i) (g i)) (hK:∀ i (h:i<K.length),fT W (f i) (g i) K[i]):fT W v (.slice a K.length cap) (.mk k t L K)
theorem fT.keep {W W':World} (hb:Below W.heap.size W W') {v u:Value} {x:Pt} (h:fT W v u x):fT W' v u x:=by
 induction h with
 | mk k t L K v a cap b off f g hk ht hL hl h1 h2 h3 h4 hc hK ih=>exact .mk k t L K v a cap b off f g hk ht (hL.keep hb) hl h1 h2 h3 h4 (fun i h=>(hc i h).keep hb) ih
theorem fT.open {W:World} {v u:Value} {x:Pt} (h:fT W v u x):(-9223372036854775808≤x.kind∧x.kind≤9223372036854775807)∧x.text.length≤140737488351232∧iA W v x.texts∧(∀ i,(x.texts.getD i []).length≤140737488351232) ∧
  ∃ (a:Option Addr) (cap b off:Nat) (f g:Nat→Value),u=.slice a x.kids.length cap∧x.kids.length≤cap∧cap≤maxLen∧(a=none→cap=0)∧(0<x.kids.length→a=some ⟨b,off,none⟩) ∧
   (∀ i (h:i<x.kids.length),Ai W b (off+i*4) x.kids[i] (f i) (g i))∧(∀ i (h:i<x.kids.length),fT W (f i) (g i) x.kids[i]):=by
 cases h with
 | mk k t L K v a cap b off f g hk ht hL hl h1 h2 h3 h4 hc hK=>exact ⟨hk,ht,hL,hl,a,cap,b,off,f,g,rfl,h1,h2,h3,h4,hc,hK⟩
section
variable {H:Type} {enc:TypeId×Value→H} {W:World} {base:Nat} {v:Value} {d:DataW H} {p:List MemPlace}
end
end Go.Proofs.YtockbaekcbeenaaGreatDoor
