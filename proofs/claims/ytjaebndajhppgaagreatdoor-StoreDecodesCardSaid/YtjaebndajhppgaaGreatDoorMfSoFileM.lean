/-SoFileM-/
import Derived.Test.YtjaebndajhppgaaGreatDoorMfHd1
import Derived.Test.YtjaebndajhppgaaGreatDoorMfGRg2
import Derived.Test.YtjaebndajhppgaaGreatDoorMfGB
import Derived.Lib.SlBytesConst
import Derived.Test.YtjaebndajhppgaaGreatDoorMfGSo1
import Derived.Test.YtjaebndajhppgaaGreatDoorMfGFr
import Derived.Test.YtjaebndajhppgaaGreatDoorMfGRg6
set_option linter.unusedVariables false
set_option maxRecDepth 100000
set_option linter.unusedSimpArgs false
set_option maxHeartbeats 1000000
namespace Go.Proofs.YtjaebndajhppgaaGreatDoor.Pm
open Go Go.ChangeShapes Go.WideShapes Go.ChangeAt Go.RowKit
open Go.Proofs.YtjaebndajhppgaaGreatDoor.Bn
theorem afC {i w d n:Nat} (hi:i<n) (hd:d<w):i*w+d<n*w:=by have:(i+1)*w≤n*w:=Nat.mul_le_mul_right w ak;rw [Nat.add_mul] at this;omega
theorem nums_length (l:List Nat) (w n:Nat):(nums l w n).length=n:=by simp [nums]
theorem afD (l:List Nat) (w n:Nat) (hn:n≤1000) (hw:w≤20):May (nums l w n) w:=by refine ⟨ak,ak,by rw [nums_length];exact hn,fun i hi=>?_⟩;rw [nums_length] at hi;rw [Dk l w n i hi];exact ⟨ak,by simpa using zk l w i⟩
end Go.Proofs.YtjaebndajhppgaaGreatDoor.Pm
namespace Go.Proofs.YtjaebndajhppgaaGreatDoor.Bn
open Go Go.ChangeShapes Go.WideShapes Go.ChangeAt Go.RowKit
theorem TB (a b:Nat) (ha:a<9223372036854775808) (hb:b<9223372036854775808):bits .xor .i64 (a:Int) (b:Int)=((a ^^^ b:Nat):Int):=by have hx:a ^^^ b<2 ^ 63:=Nat.xor_lt_two_pow ak ak;show IntKind.i64.wrap ((BitVec.ofInt 64 (a:Int) ^^^ BitVec.ofInt 64 (b:Int)).toNat:Int)=_;rw [BitVec.toNat_xor,wC a ha,wC b hb,IntKind.wrap_i64];omega
end Go.Proofs.YtjaebndajhppgaaGreatDoor.Bn
namespace Go.Proofs.YtjaebndajhppgaaGreatDoor
open Go.Proofs.Tryz
open Go Go.ChangeShapes Go.WideShapes Go.ChangeAt Go.RowKit
def AX (W:World) (v:Value) (L:List (List Nat)):Prop:=∃ V,kQ W v L.length V∧∀ i,i<L.length→bN W (V i) (L.getD i [])
theorem AX.keep {W W':World} {v:Value} {L:List (List Nat)} (h:AX W v L) (hb:Below W.heap.size W W'):AX W' v L:=by obtain ⟨V,h1,h2⟩:=h;exact ⟨V,h1.keep hb,fun i hi=>(h2 i hi).keep hb⟩
end Go.Proofs.YtjaebndajhppgaaGreatDoor
namespace Go.Proofs.YtjaebndajhppgaaGreatDoor.Cr
open Go Go.RowKit Go.Proofs.YtjaebndajhppgaaGreatDoor.Bn
def T (x:Nat):Nat:=(2*x) ^^^ (if x.testBit 23 then 25578747 else 0)
def Tn:Nat→Nat→Nat
 | 0,x=>x
 | k+1,x=>T (Tn k x)
def step (s c:Nat):Nat:=Tn 8 (s ^^^ (65536*c))
def run (s:Nat) (l:List Nat):Nat:=l.foldl step s
def start:Nat:=11994318
def sum (l:List Nat):Nat:=run start l
theorem TD (x j:Nat):(2*x).testBit j=(decide (0<j) && x.testBit (j-1)):=by
 cases j with
 | zero=>simp [Nat.testBit_zero]
 | succ j=>rw [Nat.testBit_succ,Nat.mul_div_cancel_left _ (by omega:0<2)];simp
theorem afE (j:Nat) (h:25≤j):Nat.testBit 25578747 j=false:=
 Nat.testBit_lt_two_pow (Nat.lt_of_lt_of_le (show 25578747<2 ^ 25 by decide) (Nat.pow_le_pow_right ak h))
theorem afF (x:Nat) (h:x<2 ^ 24):T x<2 ^ 24:=by apply Nat.lt_pow_two_of_testBit;intro j hj;unfold T;rw [Nat.testBit_xor,TD];rcases Nat.lt_or_ge 24 j with h1 | h1;{have h2:x.testBit (j-1)=false:=Nat.testBit_lt_two_pow (Nat.lt_of_lt_of_le h (Nat.pow_le_pow_right ak ak));rw [h2];split;{rw [afE j ak];simp};{simp}};{obtain rfl:j=24:=ak;cases hb:x.testBit 23;{simp [hb]};{simp [hb];decide}}
theorem J7 (k x:Nat) (h:x<2 ^ 24):Tn k x<2 ^ 24:=by
 induction k with
 | zero=>exact h
 | succ k ih=>exact afF _ ih
theorem in_lt (s c:Nat) (hs:s<2 ^ 24) (hc:c<256):s ^^^ (65536*c)<2 ^ 24:=Nat.xor_lt_two_pow hs ak
theorem afG (s c:Nat) (hs:s<2 ^ 24) (hc:c<256):step s c<2 ^ 24:=J7 _ _ (in_lt s c hs hc)
theorem TG (l:List Nat):∀ (s:Nat),s<2 ^ 24→(∀ i,l.getD i 0<256)→run s l<2 ^ 24:=by
 induction l with
 | nil=>intro s hs _;exact hs
 | cons c l ih=>intro s hs hl;exact ih (step s c) (afG s c hs (by have:=hl 0;simpa [List.getD] using this)) (fun i=>by have:=hl (i+1);simpa [List.getD] using this)
theorem sum_lt (l:List Nat) (h:∀ i,l.getD i 0<256):sum l<16777216:=TG l start aL h
theorem TJ (s:Nat) (k l:List Nat):run s (k++l)=run (run s k) l:=List.foldl_append
theorem TK (s:Nat) (l:List Nat) (i:Nat) (h:i<l.length):run s (l.take (i+1))=step (run s (l.take i)) (l.getD i 0):=by rw [List.take_succ_eq_append_getElem h,TJ];show step _ _=_;simp [List.getD,h]
theorem AY {l:List Nat} (i:Nat) (h:∀ i,l.getD i 0<256):∀ j,(l.take i).getD j 0<256:=by intro j;have:=h j;simp only [List.getD,List.getElem?_take] at this ⊢;split;{exact this};{decide}
end Go.Proofs.YtjaebndajhppgaaGreatDoor.Cr
namespace Go.Proofs.YtjaebndajhppgaaGreatDoor.Bx
open Go Go.RowKit Go.Proofs.YtjaebndajhppgaaGreatDoor
abbrev aY:=Int×List Nat
def three (n:Nat):List Nat:=[n / 65536 % 256,n / 256 % 256,n % 256]
def mD (a b c:Nat):Nat:=65536*a+256*b+c
theorem afH (n:Nat) (h:n<16777216):mD (n / 65536 % 256) (n / 256 % 256) (n % 256)=n:=by unfold mD;omega
theorem AZ (n:Nat):(three n).length=3:=rfl
def entry (s:aY):List Nat:=(s.1 % 256).toNat::(three s.2.length++three (Cr.sum s.2))
theorem afI (s:aY):(entry s).length=7:=rfl
def entries (L:List aY):List Nat:=L.flatMap entry
def bodies (L:List aY):List Nat:=L.flatMap fun s=>s.2
def head (L:List aY):List Nat:=[84,82,73,86,1,L.length % 256]++entries L
def file (L:List aY):List Nat:=head L++three (Cr.sum (head L))++bodies L
def sizes (L:List aY):Nat:=(L.map fun s=>s.2.length).sum
def total (L:List aY):Nat:=9+7*L.length+sizes L
def rise:Int→List aY→Prop
 | _,[]=>True
 | p,s::L=>p<s.1∧s.1≤255∧rise s.1 L
def May (L:List aY):Prop:=L.length≤8∧rise 0 L∧total L≤100000
theorem TL (s:aY) (L:List aY):entries (s::L)=entry s++entries L:=rfl
theorem J8 (s:aY) (L:List aY):bodies (s::L)=s.2++bodies L:=rfl
theorem afJ (L:List aY):(entries L).length=7*L.length:=by
 induction L with
 | nil=>rfl
 | cons s L ih=>rw [TL,List.length_append,ih,afI];simp;omega
theorem TN (L:List aY):(bodies L).length=sizes L:=by
 induction L with
 | nil=>rfl
 | cons s L ih=>rw [J8,List.length_append,ih];simp [sizes]
theorem vw (L:List aY):(head L).length=6+7*L.length:=by unfold head;rw [List.length_append,afJ];rfl
theorem sZ (L:List aY):(file L).length=total L:=by unfold file total;rw [List.length_append,List.length_append,vw,TN,AZ];omega
theorem J9 {p:Int} {L:List aY} (h:rise p L):∀ s∈L,p<s.1∧s.1≤255:=by
 induction L generalizing p with
 | nil=>intro s hs;cases hs
 | cons t L ih=>intro s hs;obtain ⟨h1,h2,h3⟩:=h;rcases List.mem_cons.1 hs with rfl | hs;{exact ⟨h1,h2⟩};{have:=ih h3 s hs;exact ⟨ak,this.2⟩}
theorem size_le {L:List aY} {s:aY} (h:s∈L):s.2.length≤sizes L:=by
 induction L with
 | nil=>cases h
 | cons t L ih=>simp only [sizes,List.map_cons,List.sum_cons] at ih ⊢;rcases List.mem_cons.1 h with rfl | h;{omega};{have:=ih h;omega}
def Bytes (L:List aY):Prop:=∀ s∈L,∀ i,s.2.getD i 0<256
def fq (b:List Nat):Nat→Nat→Nat→Option (List aY)
 | 0,_,_=>some []
 | n+1,e,q=>
  if mD (b.getD (e+1) 0) (b.getD (e+2) 0) (b.getD (e+3) 0)+q≤b.length then
   (fq b n (e+7) (q+mD (b.getD (e+1) 0) (b.getD (e+2) 0) (b.getD (e+3) 0))).map
     fun L=>(((b.getD e 0:Nat):Int),(b.drop q).take (mD (b.getD (e+1) 0) (b.getD (e+2) 0) (b.getD (e+3) 0)))::L
  else none
def vB (b:List Nat):Option (List aY):=
 if 6≤b.length∧b.getD 5 0≤8∧9+7*b.getD 5 0≤b.length∧b.length≤100000 then fq b (b.getD 5 0) 6 (9+7*b.getD 5 0) else none
theorem ER {b x:List Nat} {e k:Nat} (h:b.drop e=x):b.getD (e+k) 0=x.getD k 0:=by rw [←h];simp [List.getD,List.getElem?_drop]
theorem afK (b:List Nat):∀ (L:List aY) (e q:Nat) (X Y:List Nat),b.drop e=entries L++X→b.drop q=bodies L++Y→q≤b.length→(∀ s∈L,0≤s.1∧s.1≤255∧s.2.length<16777216)→fq b L.length e q=some L:=by
 intro L;induction L with
 | nil=>intro e q X Y _ _ _ _;rfl
 | cons s L ih=>
  intro e q X Y he hq hql hs;obtain ⟨h1,h2,h3⟩:=hs s (List.mem_cons_self ..);have hv:mD (b.getD (e+1) 0) (b.getD (e+2) 0) (b.getD (e+3) 0)=s.2.length:=by rw [ER he,ER he,ER he];exact afH _ h3
  have h0:b.getD e 0=(s.1 % 256).toNat:=by have:=ER (k:=0) he;rw [Nat.add_zero] at this;rw [this];rfl
  rw [J8,List.append_assoc] at hq;have hlen:=congrArg List.length hq;rw [List.length_drop,List.length_append] at hlen;rw [List.length_cons,fq,hv,if_pos ak,h0];have he':b.drop (e+7)=entries L++X:=by rw [←List.drop_drop,he,TL,List.append_assoc];exact List.drop_left (l₁:=entry s)
  have hq':b.drop (q+s.2.length)=bodies L++Y:=by rw [←List.drop_drop,hq];exact List.drop_left
  have hlen':=congrArg List.length hq';rw [List.length_drop] at hlen';rw [ih (e+7) (q+s.2.length) X Y he' hq' ak (fun t ht=>hs t (List.mem_cons_of_mem _ ht))];simp only [Option.map_some,Option.some.injEq];congr 1;rw [hq,List.take_left];exact Prod.ext (by show (((s.1 % 256).toNat:Nat):Int)=s.1;omega) rfl
theorem afL (L:List aY):(file L).getD 5 0=L.length % 256:=by simp [file,head]
theorem afM (L:List aY):(file L).drop 6=entries L++(three (Cr.sum (head L))++bodies L):=by unfold file head;rw [List.append_assoc,List.append_assoc];exact List.drop_left (l₁:=[84,82,73,86,1,L.length % 256])
theorem afN (L:List aY):(file L).drop (9+7*L.length)=bodies L:=by
 unfold file;have:(head L++three (Cr.sum (head L))).length=9+7*L.length:=by rw [List.length_append,vw,AZ];omega
 rw [←this];exact List.drop_left
theorem J_ (L:List aY) (h:May L):vB (file L)=some L:=by
 obtain ⟨h1,h2,h3⟩:=h;have hlen:=sZ L;have h5:(file L).getD 5 0=L.length:=by rw [afL];omega
 have ht:9+7*L.length≤total L:=by unfold total;omega
 unfold vB;rw [h5,if_pos ⟨ak,h1,ak,ak⟩];refine afK _ L 6 _ _ [] (afM L) (by rw [afN,List.append_nil]) ak (fun s hs=>?_);have hr:=J9 h2 s hs;have:=size_le hs;exact ⟨ak,hr.2,by unfold total at h3;omega⟩
open Classical in
noncomputable def iq (b:List Nat):Option (List aY):=match vB b with
 | some L=>if May L∧file L=b then some L else none
 | none=>none
theorem xC {b:List Nat} {L:List aY}:iq b=some L↔May L∧file L=b:=by unfold iq;constructor;{intro h;split at h;{split at h;{rename_i h2;cases h;exact h2};{cases h}};{cases h}};{rintro ⟨h1,rfl⟩;rw [J_ L h1];simp only;rw [if_pos ⟨h1,rfl⟩]}
theorem Ka {L L':List aY} (h:May L) (h':May L') (e:file L=file L'):L=L':=by have h1:=J_ L h;have h2:=J_ L' h';rw [e,h2] at h1;exact (Option.some.inj h1).symm
theorem small {L:List aY} (h:May L) (hb:Bytes L):∀ s∈L,s.2.length<16777216∧Cr.sum s.2<16777216:=fun s hs=>by have h1:=size_le hs;have h2:=h.2.2;unfold total at h2;exact ⟨ak,Cr.sum_lt _ (hb s hs)⟩
theorem Kc (L:List aY) (n:Nat):sizes (L.take n)≤sizes L:=by
 have h:sizes L=sizes (L.take n)+sizes (L.drop n):=by unfold sizes;rw [←List.sum_append,←List.map_append,List.take_append_drop]
 omega
def iQ:Int→List aY→Bool
 | _,[]=>true
 | p,s::L=>(decide (p<s.1) && decide (s.1≤255)) && iQ s.1 L
theorem afO (L:List aY):∀ p,iQ p L=true↔rise p L:=by
 induction L with
 | nil=>intro p;simp [iQ,rise]
 | cons s L ih=>intro p;simp only [iQ,rise,Bool.and_eq_true,decide_eq_true_eq,ih];constructor <;> (intro h;obtain ⟨h1,h2⟩:=h;simp_all)
def kF (L:List aY):Bool:=decide (L.length≤8) && iQ 0 L && decide (total L≤100000)
theorem EU (L:List aY):kF L=true↔May L:=by unfold kF May;simp only [Bool.and_eq_true,decide_eq_true_eq,afO];constructor;{rintro ⟨⟨h1,h2⟩,h3⟩;exact ⟨h1,h2,h3⟩};{rintro ⟨h1,h2,h3⟩;exact ⟨⟨h1,h2⟩,h3⟩}
theorem drop_cons (L:List aY) (i:Nat) (h:i<L.length):L.drop i=L[i]::L.drop (i+1):=List.drop_eq_getElem_cons h
theorem TQ (L:List aY) (p:Int) (i:Nat) (h:i<L.length):iQ p (L.drop i)=((decide (p<L[i].1) && decide (L[i].1≤255)) && iQ L[i].1 (L.drop (i+1))):=by rw [drop_cons L i h];rfl
theorem TU (L:List aY) (i:Nat) (h:i<L.length):sizes (L.drop i)=L[i].2.length+sizes (L.drop (i+1)):=by rw [drop_cons L i h];rfl
theorem afP (L:List aY) (i:Nat) (h:i<L.length):entries (L.take (i+1))=entries (L.take i)++entry L[i]:=by rw [List.take_add_one,List.getElem?_eq_getElem h];unfold entries;rw [List.flatMap_append];simp
theorem afQ (L:List aY) (i:Nat) (h:i<L.length):bodies (L.take (i+1))=bodies (L.take i)++L[i].2:=by rw [List.take_add_one,List.getElem?_eq_getElem h];unfold bodies;rw [List.flatMap_append];simp
end Go.Proofs.YtjaebndajhppgaaGreatDoor.Bx
namespace Go.Proofs.YtjaebndajhppgaaGreatDoor
open Go.Proofs.Tryz
open Go.ChangeShapes Go.WideShapes Go.ChangeAt Go.RowKit
theorem Cr.TV (s c:Nat) (hs:s<16777216) (hc:c<256):bits BinOp.xor IntKind.i64 (s:Int) ((c:Int)*65536)=((s ^^^ (65536*c):Nat):Int):=by rw [show (c:Int)*65536=((65536*c:Nat):Int) by omega,Bn.TB _ _ ak ak]
theorem Cr.TW (x:Nat) (hx:x<16777216):bits BinOp.xor IntKind.i64 ((x:Int)*2) 25578747=(((2*x) ^^^ 25578747:Nat):Int):=by have:=Bn.TB (2*x) 25578747 ak ak;rw [show (x:Int)*2=((2*x:Nat):Int) by omega];exact this
theorem Cr.top (x:Nat) (hx:x<16777216):x.testBit 23=decide (8388608≤x):=by rw [Nat.testBit_eq_decide_div_mod_eq,decide_eq_decide];show x / 8388608 % 2=1↔_;omega
theorem Cr.afR (x:Nat) (hx:x<16777216):bits BinOp.and IntKind.i64 ((x:Int)*2) 16777216=if 8388608≤x then 16777216 else 0:=by
 have:=Bn.OU (2*x) 16777216 ak ak;rw [show (x:Int)*2=((2*x:Nat):Int) by omega];refine this.trans ?_;have e:2*x &&& 16777216=if 8388608≤x then 16777216 else 0:=by apply Nat.eq_of_testBit_eq;intro j;rw [Nat.testBit_and,show 16777216=2 ^ 24 by rfl,Nat.testBit_two_pow,Cr.TD];by_cases hj:24=j;{subst hj;rw [show 24-1=23 by rfl,Cr.top x hx];split;{rename_i h;simp [h];decide};{rename_i h;simp [h]}};{split;{rw [Nat.testBit_two_pow];simp [hj]};{simp [hj]}}
 rw [e];split <;> rfl
theorem afS (s c:Nat) (w:World) (hs:s<16777216) (hc:c<256):Calls prog 147 #[.int .i64 s,.int .u8 c] w fun e w'=>e=.returned (.int .i64 (Cr.step s c:Nat))∧w=w':=by
 obtain ⟨x0,hx0⟩:=aB (s ^^^ (65536*c));have hx16:=Cr.TV s c hs hc;have hlt:x0<2 ^ 24:=by rw [hx0];exact Cr.in_lt s c hs hc
 have hst:Cr.step s c=Cr.Tn 8 x0:=by rw [hx0];rfl
 rw [←hx0] at hx16;rw [hst];have HL:=aj (fun k=>Cr.J7 k x0 hlt);clear hx0 hlt hst;go_enter func147,ntmps147;go_wp2;go_loop [0,10] (fun s0 s10=>∃ k:Nat,k≤8∧s0=.int .i64 (Cr.Tn k x0:Nat)∧s10=.int .i64 k) (fun _ s10=>8-(intOf s10).toNat)
 case atStart=>exact ⟨0,ak,rfl,rfl⟩
 case round=>
  obtain ⟨k,hk,rfl,rfl⟩:=hrel;have hx:=HL.out k;have hT:Cr.Tn (k+1) x0=Cr.T (Cr.Tn k x0):=rfl;by_cases hlt:k<8
  · obtain ⟨x,hx0⟩:=aB (Cr.Tn k x0);rw [←hx0] at hx hT ⊢;have hx24:x<16777216:=hx;have hand:=Cr.afR x hx24;have hxg:=Cr.TW x hx24;have htop:=Cr.top x hx24;by_cases h:8388608≤x
    · rw [if_pos h] at hand;have iP:Cr.Tn (k+1) x0=(2*x) ^^^ 25578747:=(by rw [hT];unfold Cr.T;rw [htop,decide_eq_true h];rfl);obtain ⟨y,hy⟩:=aB ((2*x) ^^^ 25578747);rw [←hy] at hxg iP;have HT:=aj iP;clear hT iP hx0 htop hy hx;go_wp2;go_round
      (case rel=>exact ⟨k+1,ak,by rw [HT.out],aN⟩);case measure=>simp [intOf];omega
    · rw [if_neg h] at hand;have iP:Cr.Tn (k+1) x0=2*x:=(by rw [hT];unfold Cr.T;rw [htop,decide_eq_false h];simp);have HT:=aj iP;clear hT iP hx0 htop hx hxg;go_wp2;go_round
      (case rel=>exact ⟨k+1,ak,by rw [HT.out];go_num,aN⟩);case measure=>simp [intOf];omega
  {obtain rfl:k=8:=ak;clear hT hx;go_wp2;go_ret;exact ⟨rfl,rfl⟩}
theorem Cr.afT (L:List (List Nat)) (i:Nat) (h:i<L.length):(L.take (i+1)).flatten=(L.take i).flatten++L.getD i []:=by rw [List.take_succ_eq_append_getElem h,List.flatten_append];simp only [List.flatten_cons,List.flatten_nil,List.append_nil,List.getD,List.getElem?_eq_getElem h,Option.getD_some]
theorem Cr.afU (L:List (List Nat)) (h:∀ i j,(L.getD i []).getD j 0<256):∀ j,L.flatten.getD j 0<256:=by
 have key:∀ (K:List (List Nat)),(∀ k∈K,∀ x∈k,x<256)→∀ x∈K.flatten,x<256:=by intro K hK x hx;obtain ⟨k,h1,h2⟩:=List.mem_flatten.1 hx;exact hK k h1 x h2
 have hL:∀ x∈L.flatten,x<256:=key L (fun k hk x hx=>by obtain ⟨i,hi,rfl⟩:=List.mem_iff_getElem.1 hk;obtain ⟨j,hj,rfl⟩:=List.mem_iff_getElem.1 hx;have:=h i j;simpa [List.getD,hi,hj] using this);intro j;rcases Nat.lt_or_ge j L.flatten.length with h1 | h1;{have:=hL (L.flatten[j]) (List.getElem_mem h1);simp only [List.getD,List.getElem?_eq_getElem h1,Option.getD_some];exact this};{rw [show L.flatten.getD j 0=0 by simp only [List.getD,List.getElem?_eq_none h1];rfl];decide}
theorem Cr.afV {L:List (List Nat)} (h:∀ i j,(L.getD i []).getD j 0<256) (i:Nat):∀ k j,((L.take i).getD k []).getD j 0<256:=by intro k j;have:=h k j;by_cases hk:k<i;{simpa [List.getD,hk] using this};{rw [show (L.take i).getD k []=[] by simp only [List.getD,List.getElem?_take,if_neg hk];rfl];simp}
theorem afW (v:Value) (L:List (List Nat)) (w:World) (hR:AX w v L) (hb:∀ i j,(L.getD i []).getD j 0<256) :
  Calls prog 103 #[v] w fun e w'=>e=.returned (.int .i64 (Cr.sum L.flatten:Nat))∧w=w':=by
 obtain ⟨V,⟨a,cap,rfl,h1,h2,h3,hr⟩,hV⟩:=hR;obtain ⟨n,hn⟩:=aB L.length;rw [←hn] at h1 hr hV ⊢;have hnm:n≤9223372036854775807:=by unfold maxLen at h2;omega
 have HN:=aj hn;have HR:=aj hr;have HV:=aj hV;have HB:=aj hb;clear hn hr hV hb h3;go_enter func103,ntmps103;go_wp2;go_loop [3,10] (fun s3 s10=>∃ i:Nat,i≤n∧s3=.int .i64 (Cr.sum (L.take i).flatten:Nat)∧s10=.int .i64 i) (fun _ s10=>n-(intOf s10).toNat)
 case atStart=>exact ⟨0,ak,rfl,rfl⟩
 case round=>
  obtain ⟨i,hi,rfl,rfl⟩:=hrel;by_cases hlt:i<n
  · obtain ⟨b,off,rfl,hc⟩:=HR.out.get hlt;obtain ⟨b2,cap2,hv2,k1,k2,k3,hr2⟩:=HV.out i hlt;have c0:=hc i hlt;rw [hv2] at c0;obtain ⟨m,hm⟩:=aB ((L.getD i []).length);rw [←hm] at c0 k1 hr2;have hmm:m≤9223372036854775807:=(by unfold maxLen at k2;omega);have hs0:=Cr.sum_lt _ (Cr.afU (L.take i) (Cr.afV HB.out i));obtain ⟨s0,Ke⟩:=aB (Cr.sum (L.take i).flatten);rw [←Ke] at hs0 ⊢;have HS:=aj (show Cr.sum (L.take (i+1)).flatten=Cr.run s0 (L.getD i []) by rw [Cr.afT L i (by rw [←HN.out];exact hlt),Ke];exact Cr.TJ _ _ _);have HM:=aj hm;have HR2:=aj hr2;clear hv2 hc k3 hm hr2 Ke;go_wp2;go_loop [3,16] (fun s3 s16=>∃ j:Nat,j≤m∧s3=.int .i64 (Cr.run s0 ((L.getD i []).take j):Nat)∧s16=.int .i64 j) (fun _ s16=>m-(intOf s16).toNat)
    (case atStart=>exact ⟨0,ak,rfl,rfl⟩);case round=>
     obtain ⟨j,hj,rfl,rfl⟩:=hrel;by_cases hjl:j<m
     · obtain ⟨b3,ai6,rfl,hc3⟩:=HR2.out.get hjl;have c1:=hc3 j hjl;have hcb:=HB.out i j;have hsb:=Cr.TG ((L.getD i []).take j) s0 hs0 (Cr.AY j (HB.out i));have HT:=aj (Cr.TK s0 (L.getD i []) j (by rw [←HM.out];exact hjl));obtain ⟨c,hc0⟩:=aB ((L.getD i []).getD j 0);obtain ⟨s1,hs1⟩:=aB (Cr.run s0 ((L.getD i []).take j));rw [←hs1] at hsb HT ⊢;rw [←hc0] at hcb c1 HT;simp only [aM] at c1;have CA:=aj (fun w=>afS s1 c w hsb hcb);clear hc3 hs1 hc0;(go_wp2_with (go_at_call 147;refine (CA.out _).mono ?_;rintro e w' ⟨rfl,rfl⟩));go_round
       (case rel=>exact ⟨j+1,ak,by rw [HT.out],aN⟩);case measure=>simp [intOf];omega
     · obtain rfl:j=m:=ak;have HF:=aj (show Cr.run s0 ((L.getD i []).take j)=Cr.sum (L.take (i+1)).flatten by rw [HS.out,HM.out,List.take_length]);go_wp2;go_round
       (case rel=>exact ⟨i+1,ak,by rw [HF.out],aN⟩);case measure=>simp [intOf];omega
  {obtain rfl:i=n:=ak;have HF:=aj (show L.take i=L by rw [HN.out,List.take_length]);go_wp2;go_ret;exact ⟨by rw [HF.out];rfl,rfl⟩}
theorem afX {W:World} {v:Value} {l:List Nat} (h:bN W v l) {b:Nat} (hb:W.heap.size=b) (t:TypeId):AX (W.alloc (.cells #[v] t)) (.slice (some ⟨b,0,none⟩) 1 1) [l]:=by
 refine ⟨fun _=>v,kQ.built hb (fun i hi=>by obtain rfl:i=0:=ak;rfl) (by unfold maxLen;omega),fun i hi=>?_⟩;obtain rfl:i=0:=by simpa using hi
 exact h.keep ((Below.refl _ _).alloc aF _)
theorem afY {l:List Nat} (h:∀ i,l.getD i 0<256):∀ i j,([l].getD i []).getD j 0<256:=by
 intro i j;cases i with
 | zero=>exact h j
 | succ i=>simp [List.getD]
theorem TY {W:World} {v:Value} {l:List Nat} (h:bN W v l) (hl:∀ i,l.getD i 0<256) {b:Nat} (hb:W.heap.size=b) :
  Calls prog 103 #[.slice (some ⟨b,0,none⟩) 1 1] (W.alloc (.cells #[v] 32)) fun e w'=>e=.returned (.int .i64 (Cr.sum l:Nat))∧W.alloc (.cells #[v] 32)=w':=by have:=afW _ [l] _ (afX h hb 32) (afY hl);rwa [show [l].flatten=l by simp] at this
end Go.Proofs.YtjaebndajhppgaaGreatDoor
namespace Go.Proofs.YtjaebndajhppgaaGreatDoor.So
def texts (l:List TT):List (List UInt8):=(terms l).map sh
def eU (t:Rg.T):List Int:=[t.1,t.2.1,t.2.2]
def dL (l:List TT):List Int:=(ids l).flatMap eU
def wid (l:List TT):Nat:=Bn.width (terms l).length
def packed (l:List TT):List Nat:=(List.range (Pm.size (3*l.length) (wid l))).map (Pm.byte (dL l) (wid l))
def iR (l:List TT):List Nat:=Fr.bf (texts l) (texts l).length
def d_ (l:List TT):List Nat:=[l.length / 256 % 256,l.length % 256]++packed l
def secs (l:List TT):List Bx.aY:=[(1,iR l),(2,d_ l)]
def file (l:List TT):List Nat:=Bx.file (secs l)
theorem mE (l:List TT):(dL l).length=3*l.length:=by
 have h:∀ r:List Rg.T,(r.flatMap eU).length=3*r.length:=by
  intro r;induction r with
  | nil=>rfl
  | cons t r ih=>rw [List.flatMap_cons,List.length_append,ih,List.length_cons];show 3+_=_;omega
 unfold dL;rw [h,gK]
theorem T9 (l:List TT):(texts l).length≤3*l.length:=by unfold texts;rw [List.length_map];exact nA l
theorem afZ {t:T3} (h:dD t):1≤(sh t).length:=by obtain ⟨k,a,b⟩:=t;obtain ⟨n,e,h1,h2⟩:=Tm.gZ (show Tm.is ((k:Nat):Int) a b=true from h);have e2:k=n:=ak;subst e2;show 1≤(Tm.aS k a b).length;unfold Tm.aS;rcases (show k=1∨k=2∨k=3∨k=4∨k=5 by omega) with rfl | rfl | rfl | rfl | rfl <;> simp
theorem vC {t:T3} (h:dD t):(sh t).length≤250:=by obtain ⟨k,a,b⟩:=t;exact (Tm.gQ (show Tm.is ((k:Nat):Int) a b=true from h)).1
theorem qZ {l:List TT} (h:∀ p∈l,Tm.aZ p=true) (hn:l.length≤100):Fr.May (texts l):=by
 have hl:=T9 l;refine ⟨ak,fun i hi=>?_⟩;have hi2:i<(terms l).length:=by unfold texts at hi;rwa [List.length_map] at hi
 have hat:∀ j (hj:j<(terms l).length),Fr.at_ (texts l) j=sh (terms l)[j]:=fun j hj=>by unfold Fr.at_ texts;simp [List.getD,hj]
 refine ⟨?_,?_,fun h0=>?_⟩;{rw [hat i hi2];exact afZ (qF h _ (List.getElem_mem _))};{rw [hat i hi2];exact vC (qF h _ (List.getElem_mem _))};{rw [hat i hi2,hat (i-1) ak];have hc:cT (terms l)[i-1] (terms l)[i]<0:=(List.pairwise_iff_getElem.1 (wN h)) (i-1) i ak hi2 ak;have hb:=Tm.XF (sh (terms l)[i-1]) (sh (terms l)[i]);exact Tm.XH.1 (by unfold cT at hc;omega)}
theorem af0 {l:List TT} {x:Int} (h:x∈dL l):0≤x∧x.toNat≤(terms l).length:=by unfold dL at h;obtain ⟨t,ht,hx⟩:=List.mem_flatMap.1 h;unfold ids at ht;obtain ⟨p,_,rfl⟩:=List.mem_map.1 ht;have b1:=wK (E:=terms l) p.1;have b2:=wK (E:=terms l) p.2.1;have b3:=wK (E:=terms l) p.2.2;unfold eU nums at hx;simp only [List.mem_cons,List.not_mem_nil,or_false] at hx;rcases hx with rfl | rfl | rfl <;> exact ⟨ak,ak⟩
theorem Kg {l:List TT} (hn:l.length≤100):wid l≤9:=(Bn.width_le _ _).2 (by have:=nA l;show _<512;omega)
theorem xD {l:List TT} (hn:l.length≤100):Pm.May (dL l) (wid l):=by
 have hw:=Kg hn;have hlen:=mE l;refine ⟨ak,ak,ak,fun i hi=>?_⟩;have hm:(dL l).getD i 0∈dL l:=by
  have:(dL l).getD i 0=(dL l)[i]:=by simp [List.getD,hi]
  rw [this];exact List.getElem_mem _
 obtain ⟨h0,h1⟩:=af0 hm;refine ⟨h0,?_⟩;have hlt:(terms l).length<2 ^ (wid l):=(Bn.width_le _ _).1 aF;rw [Int.toNat_natCast];omega
theorem size_le {l:List TT} (hn:l.length≤100):Pm.size (3*l.length) (wid l)≤338:=by have hw:=Kg hn;have h:3*l.length*wid l≤300*9:=Nat.mul_le_mul ak hw;unfold Pm.size;omega
theorem xE (l:List TT):(packed l).length=Pm.size (3*l.length) (wid l):=by unfold packed;simp
theorem T_ {l:List TT} (h:∀ p∈l,Tm.aZ p=true) (hn:l.length≤100):(iR l).length≤75602:=by have h1:=Fr.AU (qZ h hn) (texts l).length aF;have h2:=T9 l;unfold iR;omega
theorem Ua {l:List TT} (hn:l.length≤100):(d_ l).length≤340:=by have h1:=size_le hn;unfold d_;rw [List.length_append,xE];show 2+_≤_;omega
theorem A8 {l:List TT} (h:∀ p∈l,Tm.aZ p=true) (hn:l.length≤100):Bx.May (secs l):=by have h1:=T_ h hn;have h2:=Ua hn;refine ⟨by show 2≤8;omega,⟨by show (0:Int)<1;omega,by show (1:Int)≤255;omega,by show (1:Int)<2;omega,by show (2:Int)≤255;omega,trivial⟩,?_⟩;show 9+7*2+((iR l).length+((d_ l).length+0))≤100000;omega
theorem vD {l:List Nat} (h:∀ x∈l,x<256) (i:Nat):l.getD i 0<256:=by by_cases hi:i<l.length;{have:l.getD i 0=l[i]:=(by simp [List.getD,hi]);rw [this];exact h _ (List.getElem_mem _)};{have:l.getD i 0=0:=(by simp [List.getD,Nat.le_of_not_lt hi]);rw [this];omega}
theorem Ub (l:List TT):∀ x∈packed l,x<256:=fun x hx=>by unfold packed at hx;obtain ⟨t,_,rfl⟩:=List.mem_map.1 hx;exact Pm.aaI _ _ _
theorem Uc (l:List TT):∀ x∈d_ l,x<256:=fun x hx=>by unfold d_ at hx;rcases List.mem_append.1 hx with h | h;{simp only [List.mem_cons,List.not_mem_nil,or_false] at h;rcases h with rfl | rfl <;> exact Nat.mod_lt _ ak};{exact Ub l x h}
theorem Kh {l:List TT} (h:∀ p∈l,Tm.aZ p=true) (hn:l.length≤100):∀ x∈iR l,x<256:=Fr.EO (qZ h hn) _ aF
theorem EW {l:List TT} (h:∀ p∈l,Tm.aZ p=true) (hn:l.length≤100):Bx.Bytes (secs l):=by intro s hs;unfold secs at hs;simp only [List.mem_cons,List.not_mem_nil,or_false] at hs;rcases hs with rfl | rfl;{exact vD (Kh h hn)};{exact vD (Uc l)}
end Go.Proofs.YtjaebndajhppgaaGreatDoor.So
