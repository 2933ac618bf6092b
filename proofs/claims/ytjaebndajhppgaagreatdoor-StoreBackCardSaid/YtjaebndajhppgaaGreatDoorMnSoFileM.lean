/-SoFileM-/
import Derived.Test.YtjaebndajhppgaaGreatDoorMnGRg2
import Derived.Test.YtjaebndajhppgaaGreatDoorMnGB
import Derived.Lib.SlBytesConst
import Derived.Test.YtjaebndajhppgaaGreatDoorMnGSo1
import Derived.Test.YtjaebndajhppgaaGreatDoorMnGFr
import Derived.Test.YtjaebndajhppgaaGreatDoorMnGRg6
set_option linter.unusedVariables false
set_option maxRecDepth 100000
set_option linter.unusedSimpArgs false
set_option maxHeartbeats 1000000
namespace Go.Proofs.YtjaebndajhppgaaGreatDoor.Pm
open Go Go.ChangeShapes Go.WideShapes Go.ChangeAt Go.RowKit
open Go.Proofs.YtjaebndajhppgaaGreatDoor.Bn
theorem ac9 {i w d n:Nat} (hi:i<n) (hd:d<w):i*w+d<n*w:=by have:(i+1)*w≤n*w:=Nat.mul_le_mul_right w (by omega);rw [Nat.add_mul] at this;omega
theorem nums_length (l:List Nat) (w n:Nat):(nums l w n).length=n:=by simp [nums]
end Go.Proofs.YtjaebndajhppgaaGreatDoor.Pm
namespace Go.Proofs.YtjaebndajhppgaaGreatDoor.Bn
open Go Go.ChangeShapes Go.WideShapes Go.ChangeAt Go.RowKit
theorem PW (a b:Nat) (ha:a<9223372036854775808) (hb:b<9223372036854775808):bits .xor .i64 (a:Int) (b:Int)=((a ^^^ b:Nat):Int):=by have hx:a ^^^ b<2 ^ 63:=Nat.xor_lt_two_pow (by omega) (by omega);show IntKind.i64.wrap ((BitVec.ofInt 64 (a:Int) ^^^ BitVec.ofInt 64 (b:Int)).toNat:Int)=_;rw [BitVec.toNat_xor,tH a ha,tH b hb,IntKind.wrap_i64];omega
end Go.Proofs.YtjaebndajhppgaaGreatDoor.Bn
namespace Go.Proofs.YtjaebndajhppgaaGreatDoor
open Go Go.ChangeShapes Go.WideShapes Go.ChangeAt Go.RowKit
def yF (W:World) (v:Value) (L:List (List Nat)):Prop:=∃ V,kC W v L.length V∧∀ i,i<L.length→BytesAt W (V i) (L.getD i [])
theorem yF.keep {W W':World} {v:Value} {L:List (List Nat)} (h:yF W v L) (hb:Below W.heap.size W W'):yF W' v L:=by obtain ⟨V,h1,h2⟩:=h;exact ⟨V,h1.keep hb,fun i hi=>(h2 i hi).keep hb⟩
end Go.Proofs.YtjaebndajhppgaaGreatDoor
namespace Go.Proofs.YtjaebndajhppgaaGreatDoor.Cr
open Go Go.RowKit Go.Proofs.YtjaebndajhppgaaGreatDoor.Bn
def T (x:Nat):Nat:=(2*x) ^^^ (if x.testBit 23 then 25578747 else 0)
def Tn:Nat→Nat→Nat
 | 0,x=>x
 | k+1,x=>T (Tn k x)
def step (s c:Nat):Nat:=Tn 8 (s ^^^ (65536*c))
def run (s:Nat) (l:List Nat):Nat:=l.foldl step s
def start:Nat:=11994318
def sum (l:List Nat):Nat:=run start l
theorem uQ (x j:Nat):(2*x).testBit j=(decide (0<j) && x.testBit (j-1)):=by
 cases j with
 | zero=>simp [Nat.testBit_zero]
 | succ j=>rw [Nat.testBit_succ,Nat.mul_div_cancel_left _ (by omega:0<2)];simp
theorem ac_ (j:Nat) (h:25≤j):Nat.testBit 25578747 j=false:=
 Nat.testBit_lt_two_pow (Nat.lt_of_lt_of_le (show 25578747<2 ^ 25 by decide) (Nat.pow_le_pow_right (by omega) h))
theorem ada (x:Nat) (h:x<2 ^ 24):T x<2 ^ 24:=by apply Nat.lt_pow_two_of_testBit;intro j hj;unfold T;rw [Nat.testBit_xor,uQ];rcases Nat.lt_or_ge 24 j with h1 | h1;{have h2:x.testBit (j-1)=false:=Nat.testBit_lt_two_pow (Nat.lt_of_lt_of_le h (Nat.pow_le_pow_right (by omega) (by omega)));rw [h2];split;{rw [ac_ j (by omega)];simp};{simp}};{obtain rfl:j=24:=(by omega);cases hb:x.testBit 23;{simp [hb]};{simp [hb];decide}}
theorem GV (k x:Nat) (h:x<2 ^ 24):Tn k x<2 ^ 24:=by
 induction k with
 | zero=>exact h
 | succ k ih=>exact ada _ ih
theorem in_lt (s c:Nat) (hs:s<2 ^ 24) (hc:c<256):s ^^^ (65536*c)<2 ^ 24:=Nat.xor_lt_two_pow hs (by omega)
theorem adb (s c:Nat) (hs:s<2 ^ 24) (hc:c<256):step s c<2 ^ 24:=GV _ _ (in_lt s c hs hc)
theorem PX (l:List Nat):∀ (s:Nat),s<2 ^ 24→(∀ i,l.getD i 0<256)→run s l<2 ^ 24:=by
 induction l with
 | nil=>intro s hs _;exact hs
 | cons c l ih=>intro s hs hl;exact ih (step s c) (adb s c hs (by have:=hl 0;simpa [List.getD] using this)) (fun i=>by have:=hl (i+1);simpa [List.getD] using this)
theorem sum_lt (l:List Nat) (h:∀ i,l.getD i 0<256):sum l<16777216:=PX l start (by decide) h
theorem BF (s:Nat) (k l:List Nat):run s (k++l)=run (run s k) l:=List.foldl_append
theorem PY (s:Nat) (l:List Nat) (i:Nat) (h:i<l.length):run s (l.take (i+1))=step (run s (l.take i)) (l.getD i 0):=by rw [List.take_succ_eq_append_getElem h,BF];show step _ _=_;simp [List.getD,h]
theorem yG {l:List Nat} (i:Nat) (h:∀ i,l.getD i 0<256):∀ j,(l.take i).getD j 0<256:=by intro j;have:=h j;simp only [List.getD,List.getElem?_take] at this ⊢;split;{exact this};{decide}
end Go.Proofs.YtjaebndajhppgaaGreatDoor.Cr
namespace Go.Proofs.YtjaebndajhppgaaGreatDoor.Bx
open Go Go.RowKit Go.Proofs.YtjaebndajhppgaaGreatDoor
abbrev aO:=Int×List Nat
def three (n:Nat):List Nat:=[n / 65536 % 256,n / 256 % 256,n % 256]
def mM (a b c:Nat):Nat:=65536*a+256*b+c
theorem ade (n:Nat) (h:n<16777216):mM (n / 65536 % 256) (n / 256 % 256) (n % 256)=n:=by unfold mM;omega
theorem iB (n:Nat):(three n).length=3:=rfl
def entry (s:aO):List Nat:=(s.1 % 256).toNat::(three s.2.length++three (Cr.sum s.2))
theorem yH (s:aO):(entry s).length=7:=rfl
def entries (L:List aO):List Nat:=L.flatMap entry
def bodies (L:List aO):List Nat:=L.flatMap fun s=>s.2
def head (L:List aO):List Nat:=[84,82,73,86,1,L.length % 256]++entries L
def file (L:List aO):List Nat:=head L++three (Cr.sum (head L))++bodies L
def sizes (L:List aO):Nat:=(L.map fun s=>s.2.length).sum
def total (L:List aO):Nat:=9+7*L.length+sizes L
def rise:Int→List aO→Prop
 | _,[]=>True
 | p,s::L=>p<s.1∧s.1≤255∧rise s.1 L
def May (L:List aO):Prop:=L.length≤8∧rise 0 L∧total L≤100000
theorem uR (s:aO) (L:List aO):entries (s::L)=entry s++entries L:=rfl
theorem yI (s:aO) (L:List aO):bodies (s::L)=s.2++bodies L:=rfl
theorem yJ (L:List aO):(entries L).length=7*L.length:=by
 induction L with
 | nil=>rfl
 | cons s L ih=>rw [uR,List.length_append,ih,yH];simp;omega
theorem GX (L:List aO):(bodies L).length=sizes L:=by
 induction L with
 | nil=>rfl
 | cons s L ih=>rw [yI,List.length_append,ih];simp [sizes]
theorem oP (L:List aO):(head L).length=6+7*L.length:=by unfold head;rw [List.length_append,yJ];rfl
theorem jO (L:List aO):(file L).length=total L:=by unfold file total;rw [List.length_append,List.length_append,oP,GX,iB];omega
theorem GY {p:Int} {L:List aO} (h:rise p L):∀ s∈L,p<s.1∧s.1≤255:=by
 induction L generalizing p with
 | nil=>intro s hs;cases hs
 | cons t L ih=>intro s hs;obtain ⟨h1,h2,h3⟩:=h;rcases List.mem_cons.1 hs with rfl | hs;{exact ⟨h1,h2⟩};{have:=ih h3 s hs;exact ⟨by omega,this.2⟩}
theorem size_le {L:List aO} {s:aO} (h:s∈L):s.2.length≤sizes L:=by
 induction L with
 | nil=>cases h
 | cons t L ih=>simp only [sizes,List.map_cons,List.sum_cons] at ih ⊢;rcases List.mem_cons.1 h with rfl | h;{omega};{have:=ih h;omega}
def Bytes (L:List aO):Prop:=∀ s∈L,∀ i,s.2.getD i 0<256
def iC (b:List Nat):Nat→Nat→Nat→Option (List aO)
 | 0,_,_=>some []
 | n+1,e,q=>
  if mM (b.getD (e+1) 0) (b.getD (e+2) 0) (b.getD (e+3) 0)+q≤b.length then
   (iC b n (e+7) (q+mM (b.getD (e+1) 0) (b.getD (e+2) 0) (b.getD (e+3) 0))).map
     fun L=>(((b.getD e 0:Nat):Int),(b.drop q).take (mM (b.getD (e+1) 0) (b.getD (e+2) 0) (b.getD (e+3) 0)))::L
  else none
def uS (b:List Nat):Option (List aO):=
 if 6≤b.length∧b.getD 5 0≤8∧9+7*b.getD 5 0≤b.length∧b.length≤100000 then iC b (b.getD 5 0) 6 (9+7*b.getD 5 0) else none
theorem BI {b x:List Nat} {e k:Nat} (h:b.drop e=x):b.getD (e+k) 0=x.getD k 0:=by rw [←h];simp [List.getD,List.getElem?_drop]
theorem adf (b:List Nat):∀ (L:List aO) (e q:Nat) (X Y:List Nat),b.drop e=entries L++X→b.drop q=bodies L++Y→q≤b.length→(∀ s∈L,0≤s.1∧s.1≤255∧s.2.length<16777216)→iC b L.length e q=some L:=by
 intro L;induction L with
 | nil=>intro e q X Y _ _ _ _;rfl
 | cons s L ih=>
  intro e q X Y he hq hql hs;obtain ⟨h1,h2,h3⟩:=hs s (List.mem_cons_self ..);have hv:mM (b.getD (e+1) 0) (b.getD (e+2) 0) (b.getD (e+3) 0)=s.2.length:=by rw [BI he,BI he,BI he];exact ade _ h3
  have h0:b.getD e 0=(s.1 % 256).toNat:=by have:=BI (k:=0) he;rw [Nat.add_zero] at this;rw [this];rfl
  rw [yI,List.append_assoc] at hq;have hlen:=congrArg List.length hq;rw [List.length_drop,List.length_append] at hlen;rw [List.length_cons,iC,hv,if_pos (by omega),h0];have he':b.drop (e+7)=entries L++X:=by rw [←List.drop_drop,he,uR,List.append_assoc];exact List.drop_left (l₁:=entry s)
  have hq':b.drop (q+s.2.length)=bodies L++Y:=by rw [←List.drop_drop,hq];exact List.drop_left
  have hlen':=congrArg List.length hq';rw [List.length_drop] at hlen';rw [ih (e+7) (q+s.2.length) X Y he' hq' (by omega) (fun t ht=>hs t (List.mem_cons_of_mem _ ht))];simp only [Option.map_some,Option.some.injEq];congr 1;rw [hq,List.take_left];exact Prod.ext (by show (((s.1 % 256).toNat:Nat):Int)=s.1;omega) rfl
theorem rZ (L:List aO):(file L).getD 5 0=L.length % 256:=by simp [file,head]
theorem yK (L:List aO):(file L).drop 6=entries L++(three (Cr.sum (head L))++bodies L):=by unfold file head;rw [List.append_assoc,List.append_assoc];exact List.drop_left (l₁:=[84,82,73,86,1,L.length % 256])
theorem adg (L:List aO):(file L).drop (9+7*L.length)=bodies L:=by
 unfold file;have:(head L++three (Cr.sum (head L))).length=9+7*L.length:=by rw [List.length_append,oP,iB];omega
 rw [←this];exact List.drop_left
theorem adh (L:List aO) (h:May L):uS (file L)=some L:=by
 obtain ⟨h1,h2,h3⟩:=h;have hlen:=jO L;have h5:(file L).getD 5 0=L.length:=by rw [rZ];omega
 have ht:9+7*L.length≤total L:=by unfold total;omega
 unfold uS;rw [h5,if_pos ⟨by omega,h1,by omega,by omega⟩];refine adf _ L 6 _ _ [] (yK L) (by rw [adg,List.append_nil]) (by omega) (fun s hs=>?_);have hr:=GY h2 s hs;have:=size_le hs;exact ⟨by omega,hr.2,by unfold total at h3;omega⟩
open Classical in
noncomputable def fT (b:List Nat):Option (List aO):=match uS b with
 | some L=>if May L∧file L=b then some L else none
 | none=>none
theorem GZ {b:List Nat} {L:List aO}:fT b=some L↔May L∧file L=b:=by unfold fT;constructor;{intro h;split at h;{split at h;{rename_i h2;cases h;exact h2};{cases h}};{cases h}};{rintro ⟨h1,rfl⟩;rw [adh L h1];simp only;rw [if_pos ⟨h1,rfl⟩]}
theorem small {L:List aO} (h:May L) (hb:Bytes L):∀ s∈L,s.2.length<16777216∧Cr.sum s.2<16777216:=fun s hs=>by have h1:=size_le hs;have h2:=h.2.2;unfold total at h2;exact ⟨by omega,Cr.sum_lt _ (hb s hs)⟩
theorem BJ (L:List aO) (n:Nat):sizes (L.take n)≤sizes L:=by
 have h:sizes L=sizes (L.take n)+sizes (L.drop n):=by unfold sizes;rw [←List.sum_append,←List.map_append,List.take_append_drop]
 omega
def iD:Int→List aO→Bool
 | _,[]=>true
 | p,s::L=>(decide (p<s.1) && decide (s.1≤255)) && iD s.1 L
theorem adi (L:List aO):∀ p,iD p L=true↔rise p L:=by
 induction L with
 | nil=>intro p;simp [iD,rise]
 | cons s L ih=>intro p;simp only [iD,rise,Bool.and_eq_true,decide_eq_true_eq,ih];constructor <;> (intro h;obtain ⟨h1,h2⟩:=h;simp_all)
def g_ (L:List aO):Bool:=decide (L.length≤8) && iD 0 L && decide (total L≤100000)
theorem G7 (L:List aO):g_ L=true↔May L:=by unfold g_ May;simp only [Bool.and_eq_true,decide_eq_true_eq,adi];constructor;{rintro ⟨⟨h1,h2⟩,h3⟩;exact ⟨h1,h2,h3⟩};{rintro ⟨h1,h2,h3⟩;exact ⟨⟨h1,h2⟩,h3⟩}
theorem drop_cons (L:List aO) (i:Nat) (h:i<L.length):L.drop i=L[i]::L.drop (i+1):=List.drop_eq_getElem_cons h
theorem PZ (L:List aO) (p:Int) (i:Nat) (h:i<L.length):iD p (L.drop i)=((decide (p<L[i].1) && decide (L[i].1≤255)) && iD L[i].1 (L.drop (i+1))):=by rw [drop_cons L i h];rfl
theorem P5 (L:List aO) (i:Nat) (h:i<L.length):sizes (L.drop i)=L[i].2.length+sizes (L.drop (i+1)):=by rw [drop_cons L i h];rfl
theorem adj (L:List aO) (i:Nat) (h:i<L.length):entries (L.take (i+1))=entries (L.take i)++entry L[i]:=by rw [List.take_add_one,List.getElem?_eq_getElem h];unfold entries;rw [List.flatMap_append];simp
theorem adk (L:List aO) (i:Nat) (h:i<L.length):bodies (L.take (i+1))=bodies (L.take i)++L[i].2:=by rw [List.take_add_one,List.getElem?_eq_getElem h];unfold bodies;rw [List.flatMap_append];simp
end Go.Proofs.YtjaebndajhppgaaGreatDoor.Bx
namespace Go.Proofs.YtjaebndajhppgaaGreatDoor
open Go.ChangeShapes Go.WideShapes Go.ChangeAt Go.RowKit
theorem Cr.P6 (s c:Nat) (hs:s<16777216) (hc:c<256):bits BinOp.xor IntKind.i64 (s:Int) ((c:Int)*65536)=((s ^^^ (65536*c):Nat):Int):=by rw [show (c:Int)*65536=((65536*c:Nat):Int) by omega,Bn.PW _ _ (by omega) (by omega)]
theorem Cr.P7 (x:Nat) (hx:x<16777216):bits BinOp.xor IntKind.i64 ((x:Int)*2) 25578747=(((2*x) ^^^ 25578747:Nat):Int):=by have:=Bn.PW (2*x) 25578747 (by omega) (by omega);rw [show (x:Int)*2=((2*x:Nat):Int) by omega];exact this
theorem Cr.top (x:Nat) (hx:x<16777216):x.testBit 23=decide (8388608≤x):=by rw [Nat.testBit_eq_decide_div_mod_eq,decide_eq_decide];show x / 8388608 % 2=1↔_;omega
theorem Cr.adl (x:Nat) (hx:x<16777216):bits BinOp.and IntKind.i64 ((x:Int)*2) 16777216=if 8388608≤x then 16777216 else 0:=by
 have:=Bn.K7 (2*x) 16777216 (by omega) (by omega);rw [show (x:Int)*2=((2*x:Nat):Int) by omega];refine this.trans ?_;have e:2*x &&& 16777216=if 8388608≤x then 16777216 else 0:=by apply Nat.eq_of_testBit_eq;intro j;rw [Nat.testBit_and,show 16777216=2 ^ 24 by rfl,Nat.testBit_two_pow,Cr.uQ];by_cases hj:24=j;{subst hj;rw [show 24-1=23 by rfl,Cr.top x hx];split;{rename_i h;simp [h];decide};{rename_i h;simp [h]}};{split;{rw [Nat.testBit_two_pow];simp [hj]};{simp [hj]}}
 rw [e];split <;> rfl
theorem adn (s c:Nat) (w:World) (hs:s<16777216) (hc:c<256):Calls Tryz.prog 147 #[.int .i64 s,.int .u8 c] w fun e w'=>e=.returned (.int .i64 (Cr.step s c:Nat))∧w=w':=by
 obtain ⟨x0,hx0⟩:∃ x,x=s ^^^ (65536*c):=⟨_,rfl⟩;have hx16:=Cr.P6 s c hs hc;have hlt:x0<2 ^ 24:=by rw [hx0];exact Cr.in_lt s c hs hc
 have hst:Cr.step s c=Cr.Tn 8 x0:=by rw [hx0];rfl
 rw [←hx0] at hx16;rw [hst];have HL:=hid (fun k=>Cr.GV k x0 hlt);clear hx0 hlt hst;go_enter Tryz.func147,Tryz.ntmps147;go_wp2;go_loop [0,10] (fun s0 s10=>∃ k:Nat,k≤8∧s0=.int .i64 (Cr.Tn k x0:Nat)∧s10=.int .i64 k) (fun _ s10=>8-(intOf s10).toNat)
 case atStart=>exact ⟨0,by omega,rfl,rfl⟩
 case round=>
  obtain ⟨k,hk,rfl,rfl⟩:=hrel;have hx:=HL.out k;have hT:Cr.Tn (k+1) x0=Cr.T (Cr.Tn k x0):=rfl;by_cases hlt:k<8
  · obtain ⟨x,hx0⟩:∃ x,x=Cr.Tn k x0:=⟨_,rfl⟩;rw [←hx0] at hx hT ⊢;have hx24:x<16777216:=hx;have hand:=Cr.adl x hx24;have hxg:=Cr.P7 x hx24;have htop:=Cr.top x hx24;by_cases h:8388608≤x
    · rw [if_pos h] at hand;have iq:Cr.Tn (k+1) x0=(2*x) ^^^ 25578747:=(by rw [hT];unfold Cr.T;rw [htop,decide_eq_true h];rfl);obtain ⟨y,hy⟩:∃ y,y=(2*x) ^^^ 25578747:=⟨_,rfl⟩;rw [←hy] at hxg iq;have HT:=hid iq;clear hT iq hx0 htop hy hx;go_wp2;go_round
      (case rel=>exact ⟨k+1,by omega,by rw [HT.out],by go_num⟩);case measure=>simp [intOf];omega
    · rw [if_neg h] at hand;have iq:Cr.Tn (k+1) x0=2*x:=(by rw [hT];unfold Cr.T;rw [htop,decide_eq_false h];simp);have HT:=hid iq;clear hT iq hx0 htop hx hxg;go_wp2;go_round
      (case rel=>exact ⟨k+1,by omega,by rw [HT.out];go_num,by go_num⟩);case measure=>simp [intOf];omega
  {obtain rfl:k=8:=(by omega);clear hT hx;go_wp2;go_ret;exact ⟨rfl,rfl⟩}
theorem Cr.ado (L:List (List Nat)) (i:Nat) (h:i<L.length):(L.take (i+1)).flatten=(L.take i).flatten++L.getD i []:=by rw [List.take_succ_eq_append_getElem h,List.flatten_append];simp only [List.flatten_cons,List.flatten_nil,List.append_nil,List.getD,List.getElem?_eq_getElem h,Option.getD_some]
theorem Cr.adp (L:List (List Nat)) (h:∀ i j,(L.getD i []).getD j 0<256):∀ j,L.flatten.getD j 0<256:=by
 have key:∀ (K:List (List Nat)),(∀ k∈K,∀ x∈k,x<256)→∀ x∈K.flatten,x<256:=by intro K hK x hx;obtain ⟨k,h1,h2⟩:=List.mem_flatten.1 hx;exact hK k h1 x h2
 have hL:∀ x∈L.flatten,x<256:=key L (fun k hk x hx=>by obtain ⟨i,hi,rfl⟩:=List.mem_iff_getElem.1 hk;obtain ⟨j,hj,rfl⟩:=List.mem_iff_getElem.1 hx;have:=h i j;simpa [List.getD,hi,hj] using this);intro j;rcases Nat.lt_or_ge j L.flatten.length with h1 | h1;{have:=hL (L.flatten[j]) (List.getElem_mem h1);simp only [List.getD,List.getElem?_eq_getElem h1,Option.getD_some];exact this};{rw [show L.flatten.getD j 0=0 by simp only [List.getD,List.getElem?_eq_none h1];rfl];decide}
theorem Cr.adq {L:List (List Nat)} (h:∀ i j,(L.getD i []).getD j 0<256) (i:Nat):∀ k j,((L.take i).getD k []).getD j 0<256:=by intro k j;have:=h k j;by_cases hk:k<i;{simpa [List.getD,hk] using this};{rw [show (L.take i).getD k []=[] by simp only [List.getD,List.getElem?_take,if_neg hk];rfl];simp}
theorem adr (v:Value) (L:List (List Nat)) (w:World) (hR:yF w v L) (hb:∀ i j,(L.getD i []).getD j 0<256) :
  Calls Tryz.prog 103 #[v] w fun e w'=>e=.returned (.int .i64 (Cr.sum L.flatten:Nat))∧w=w':=by
 obtain ⟨V,⟨a,cap,rfl,h1,h2,h3,hr⟩,hV⟩:=hR;obtain ⟨n,hn⟩:∃ n,n=L.length:=⟨_,rfl⟩;rw [←hn] at h1 hr hV ⊢;have hnm:n≤9223372036854775807:=by unfold maxLen at h2;omega
 have HN:=hid hn;have HR:=hid hr;have HV:=hid hV;have HB:=hid hb;clear hn hr hV hb h3;go_enter Tryz.func103,Tryz.ntmps103;go_wp2;go_loop [3,10] (fun s3 s10=>∃ i:Nat,i≤n∧s3=.int .i64 (Cr.sum (L.take i).flatten:Nat)∧s10=.int .i64 i) (fun _ s10=>n-(intOf s10).toNat)
 case atStart=>exact ⟨0,by omega,rfl,rfl⟩
 case round=>
  obtain ⟨i,hi,rfl,rfl⟩:=hrel;by_cases hlt:i<n
  · obtain ⟨b,off,rfl,hc⟩:=HR.out.get hlt;obtain ⟨b2,cap2,hv2,k1,k2,k3,hr2⟩:=HV.out i hlt;have c0:=hc i hlt;rw [hv2] at c0;obtain ⟨m,hm⟩:∃ m,m=(L.getD i []).length:=⟨_,rfl⟩;rw [←hm] at c0 k1 hr2;have hmm:m≤9223372036854775807:=(by unfold maxLen at k2;omega);have hs0:=Cr.sum_lt _ (Cr.adp (L.take i) (Cr.adq HB.out i));obtain ⟨s0,G8⟩:∃ s0,s0=Cr.sum (L.take i).flatten:=⟨_,rfl⟩;rw [←G8] at hs0 ⊢;have HS:=hid (show Cr.sum (L.take (i+1)).flatten=Cr.run s0 (L.getD i []) by rw [Cr.ado L i (by rw [←HN.out];exact hlt),G8];exact Cr.BF _ _ _);have HM:=hid hm;have HR2:=hid hr2;clear hv2 hc k3 hm hr2 G8;go_wp2;go_loop [3,16] (fun s3 s16=>∃ j:Nat,j≤m∧s3=.int .i64 (Cr.run s0 ((L.getD i []).take j):Nat)∧s16=.int .i64 j) (fun _ s16=>m-(intOf s16).toNat)
    (case atStart=>exact ⟨0,by omega,rfl,rfl⟩);case round=>
     obtain ⟨j,hj,rfl,rfl⟩:=hrel;by_cases hjl:j<m
     · obtain ⟨b3,agx,rfl,hc3⟩:=HR2.out.get hjl;have c1:=hc3 j hjl;have hcb:=HB.out i j;have hsb:=Cr.PX ((L.getD i []).take j) s0 hs0 (Cr.yG j (HB.out i));have HT:=hid (Cr.PY s0 (L.getD i []) j (by rw [←HM.out];exact hjl));obtain ⟨c,hc0⟩:∃ c,c=(L.getD i []).getD j 0:=⟨_,rfl⟩;obtain ⟨s1,hs1⟩:∃ s1,s1=Cr.run s0 ((L.getD i []).take j):=⟨_,rfl⟩;rw [←hs1] at hsb HT ⊢;rw [←hc0] at hcb c1 HT;simp only [aF] at c1;have CA:=hid (fun w=>adn s1 c w hsb hcb);clear hc3 hs1 hc0;(go_wp2_with (go_at_call 147;refine (CA.out _).mono ?_;rintro e w' ⟨rfl,rfl⟩));go_round
       (case rel=>exact ⟨j+1,by omega,by rw [HT.out],by go_num⟩);case measure=>simp [intOf];omega
     · obtain rfl:j=m:=(by omega);have HF:=hid (show Cr.run s0 ((L.getD i []).take j)=Cr.sum (L.take (i+1)).flatten by rw [HS.out,HM.out,List.take_length]);go_wp2;go_round
       (case rel=>exact ⟨i+1,by omega,by rw [HF.out],by go_num⟩);case measure=>simp [intOf];omega
  {obtain rfl:i=n:=(by omega);have HF:=hid (show L.take i=L by rw [HN.out,List.take_length]);go_wp2;go_ret;exact ⟨by rw [HF.out];rfl,rfl⟩}
theorem ads {W:World} {v:Value} {l:List Nat} (h:BytesAt W v l) {b:Nat} (hb:W.heap.size=b) (t:TypeId):yF (W.alloc (.cells #[v] t)) (.slice (some ⟨b,0,none⟩) 1 1) [l]:=by
 refine ⟨fun _=>v,kC.built hb (fun i hi=>by
  obtain rfl:i=0:=by omega
  rfl) (by unfold maxLen;omega),fun i hi=>?_⟩
 obtain rfl:i=0:=by simpa using hi
 exact h.keep ((Below.refl _ _).alloc (Nat.le_refl _) _)
theorem adt {l:List Nat} (h:∀ i,l.getD i 0<256):∀ i j,([l].getD i []).getD j 0<256:=by
 intro i j;cases i with
 | zero=>exact h j
 | succ i=>simp [List.getD]
theorem P8 {W:World} {v:Value} {l:List Nat} (h:BytesAt W v l) (hl:∀ i,l.getD i 0<256) {b:Nat} (hb:W.heap.size=b) :
  Calls Tryz.prog 103 #[.slice (some ⟨b,0,none⟩) 1 1] (W.alloc (.cells #[v] 32)) fun e w'=>e=.returned (.int .i64 (Cr.sum l:Nat))∧W.alloc (.cells #[v] 32)=w':=by have:=adr _ [l] _ (ads h hb 32) (adt hl);rwa [show [l].flatten=l by simp] at this
end Go.Proofs.YtjaebndajhppgaaGreatDoor
namespace Go.Proofs.YtjaebndajhppgaaGreatDoor.So
def texts (l:List TT):List (List UInt8):=(terms l).map sh
def eZ (t:Rg.T):List Int:=[t.1,t.2.1,t.2.2]
def eT (l:List TT):List Int:=(ids l).flatMap eZ
def wid (l:List TT):Nat:=Bn.width (terms l).length
def packed (l:List TT):List Nat:=(List.range (Pm.size (3*l.length) (wid l))).map (Pm.byte (eT l) (wid l))
def jP (l:List TT):List Nat:=Fr.aS (texts l) (texts l).length
def fJ (l:List TT):List Nat:=[l.length / 256 % 256,l.length % 256]++packed l
def secs (l:List TT):List Bx.aO:=[(1,jP l),(2,fJ l)]
def file (l:List TT):List Nat:=Bx.file (secs l)
theorem oQ (l:List TT):(eT l).length=3*l.length:=by
 have h:∀ r:List Rg.T,(r.flatMap eZ).length=3*r.length:=by
  intro r;induction r with
  | nil=>rfl
  | cons t r ih=>rw [List.flatMap_cons,List.length_append,ih,List.length_cons];show 3+_=_;omega
 unfold eT;rw [h,fO]
theorem P9 (l:List TT):(texts l).length≤3*l.length:=by unfold texts;rw [List.length_map];exact lH l
theorem adu {t:T3} (h:bX t):1≤(sh t).length:=by
 obtain ⟨k,a,b⟩:=t;obtain ⟨n,e,h1,h2⟩:=Tm.fF (show Tm.is ((k:Nat):Int) a b=true from h);have e2:k=n:=by omega
 subst e2;show 1≤(Tm.aG k a b).length;unfold Tm.aG;rcases (show k=1∨k=2∨k=3∨k=4∨k=5 by omega) with rfl | rfl | rfl | rfl | rfl <;> simp
theorem r9 {t:T3} (h:bX t):(sh t).length≤250:=by obtain ⟨k,a,b⟩:=t;exact (Tm.fq (show Tm.is ((k:Nat):Int) a b=true from h)).1
theorem uT {l:List TT} (h:∀ p∈l,Tm.aN p=true) (hn:l.length≤100):Fr.May (texts l):=by
 have hl:=P9 l;refine ⟨by omega,fun i hi=>?_⟩;have hi2:i<(terms l).length:=by unfold texts at hi;rwa [List.length_map] at hi
 have hat:∀ j (hj:j<(terms l).length),Fr.at_ (texts l) j=sh (terms l)[j]:=fun j hj=>by unfold Fr.at_ texts;simp [List.getD,hj]
 refine ⟨?_,?_,fun h0=>?_⟩;{rw [hat i hi2];exact adu (uh h _ (List.getElem_mem _))};{rw [hat i hi2];exact r9 (uh h _ (List.getElem_mem _))};{rw [hat i hi2,hat (i-1) (by omega)];have hc:cT (terms l)[i-1] (terms l)[i]<0:=(List.pairwise_iff_getElem.1 (ug h)) (i-1) i (by omega) hi2 (by omega);have hb:=Tm.SV (sh (terms l)[i-1]) (sh (terms l)[i]);exact Tm.S9.1 (by unfold cT at hc;omega)}
theorem adv {l:List TT} {x:Int} (h:x∈eT l):0≤x∧x.toNat≤(terms l).length:=by unfold eT at h;obtain ⟨t,ht,hx⟩:=List.mem_flatMap.1 h;unfold ids at ht;obtain ⟨p,_,rfl⟩:=List.mem_map.1 ht;have b1:=t_ (E:=terms l) p.1;have b2:=t_ (E:=terms l) p.2.1;have b3:=t_ (E:=terms l) p.2.2;unfold eZ nums at hx;simp only [List.mem_cons,List.not_mem_nil,or_false] at hx;rcases hx with rfl | rfl | rfl <;> exact ⟨by omega,by omega⟩
theorem G9 {l:List TT} (hn:l.length≤100):wid l≤9:=(Bn.width_le _ _).2 (by have:=lH l;show _<512;omega)
theorem G_ {l:List TT} (hn:l.length≤100):Pm.May (eT l) (wid l):=by
 have hw:=G9 hn;have hlen:=oQ l;refine ⟨by omega,by omega,by omega,fun i hi=>?_⟩;have hm:(eT l).getD i 0∈eT l:=by
  have:(eT l).getD i 0=(eT l)[i]:=by simp [List.getD,hi]
  rw [this];exact List.getElem_mem _
 obtain ⟨h0,h1⟩:=adv hm;refine ⟨h0,?_⟩;have hlt:(terms l).length<2 ^ (wid l):=(Bn.width_le _ _).1 (Nat.le_refl _);rw [Int.toNat_natCast];omega
theorem size_le {l:List TT} (hn:l.length≤100):Pm.size (3*l.length) (wid l)≤338:=by have hw:=G9 hn;have h:3*l.length*wid l≤300*9:=Nat.mul_le_mul (by omega) hw;unfold Pm.size;omega
theorem uU (l:List TT):(packed l).length=Pm.size (3*l.length) (wid l):=by unfold packed;simp
theorem P_ {l:List TT} (h:∀ p∈l,Tm.aN p=true) (hn:l.length≤100):(jP l).length≤75602:=by have h1:=Fr.Bz (uT h hn) (texts l).length (Nat.le_refl _);have h2:=P9 l;unfold jP;omega
theorem Qa {l:List TT} (hn:l.length≤100):(fJ l).length≤340:=by have h1:=size_le hn;unfold fJ;rw [List.length_append,uU];show 2+_≤_;omega
theorem r_ {l:List TT} (h:∀ p∈l,Tm.aN p=true) (hn:l.length≤100):Bx.May (secs l):=by have h1:=P_ h hn;have h2:=Qa hn;refine ⟨by show 2≤8;omega,⟨by show (0:Int)<1;omega,by show (1:Int)≤255;omega,by show (1:Int)<2;omega,by show (2:Int)≤255;omega,trivial⟩,?_⟩;show 9+7*2+((jP l).length+((fJ l).length+0))≤100000;omega
theorem BM {l:List Nat} (h:∀ x∈l,x<256) (i:Nat):l.getD i 0<256:=by by_cases hi:i<l.length;{have:l.getD i 0=l[i]:=(by simp [List.getD,hi]);rw [this];exact h _ (List.getElem_mem _)};{have:l.getD i 0=0:=(by simp [List.getD,Nat.le_of_not_lt hi]);rw [this];omega}
theorem Qb (l:List TT):∀ x∈packed l,x<256:=fun x hx=>by unfold packed at hx;obtain ⟨t,_,rfl⟩:=List.mem_map.1 hx;exact Pm.WM _ _ _
theorem Qc (l:List TT):∀ x∈fJ l,x<256:=fun x hx=>by unfold fJ at hx;rcases List.mem_append.1 hx with h | h;{simp only [List.mem_cons,List.not_mem_nil,or_false] at h;rcases h with rfl | rfl <;> exact Nat.mod_lt _ (by omega)};{exact Qb l x h}
theorem He {l:List TT} (h:∀ p∈l,Tm.aN p=true) (hn:l.length≤100):∀ x∈jP l,x<256:=Fr.GN (uT h hn) _ (Nat.le_refl _)
theorem sj {l:List TT} (h:∀ p∈l,Tm.aN p=true) (hn:l.length≤100):Bx.Bytes (secs l):=by intro s hs;unfold secs at hs;simp only [List.mem_cons,List.not_mem_nil,or_false] at hs;rcases hs with rfl | rfl;{exact BM (He h hn)};{exact BM (Qc l)}
end Go.Proofs.YtjaebndajhppgaaGreatDoor.So
