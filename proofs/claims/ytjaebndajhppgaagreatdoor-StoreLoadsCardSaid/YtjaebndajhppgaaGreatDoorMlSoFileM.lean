/-SoFileM-/
import Derived.Test.YtjaebndajhppgaaGreatDoorMlHd1
import Derived.Test.YtjaebndajhppgaaGreatDoorMlGRg2
import Derived.Test.YtjaebndajhppgaaGreatDoorMlGB
import Derived.Lib.SlBytesConst
import Derived.Test.YtjaebndajhppgaaGreatDoorMlGSo1
import Derived.Test.YtjaebndajhppgaaGreatDoorMlGFr
import Derived.Test.YtjaebndajhppgaaGreatDoorMlGRg6
set_option linter.unusedVariables false
set_option maxRecDepth 100000
set_option linter.unusedSimpArgs false
set_option maxHeartbeats 1000000
namespace Go.Proofs.YtjaebndajhppgaaGreatDoor.Pm
open Go Go.ChangeShapes Go.WideShapes Go.ChangeAt Go.RowKit
open Go.Proofs.YtjaebndajhppgaaGreatDoor.Bn
end Go.Proofs.YtjaebndajhppgaaGreatDoor.Pm
namespace Go.Proofs.YtjaebndajhppgaaGreatDoor.Bn
open Go Go.ChangeShapes Go.WideShapes Go.ChangeAt Go.RowKit
theorem OQ (a b:Nat) (ha:a<9223372036854775808) (hb:b<9223372036854775808):bits .xor .i64 (a:Int) (b:Int)=((a ^^^ b:Nat):Int):=by have hx:a ^^^ b<2 ^ 63:=Nat.xor_lt_two_pow aj aj;show IntKind.i64.wrap ((BitVec.ofInt 64 (a:Int) ^^^ BitVec.ofInt 64 (b:Int)).toNat:Int)=_;rw [BitVec.toNat_xor,uz a ha,uz b hb,IntKind.wrap_i64];omega
end Go.Proofs.YtjaebndajhppgaaGreatDoor.Bn
namespace Go.Proofs.YtjaebndajhppgaaGreatDoor
open Go.Proofs.Tryz
open Go Go.ChangeShapes Go.WideShapes Go.ChangeAt Go.RowKit
def yQ (W:World) (v:Value) (L:List (List Nat)):Prop:=∃ V,lT W v L.length V∧∀ i,i<L.length→BytesAt W (V i) (L.getD i [])
theorem yQ.keep {W W':World} {v:Value} {L:List (List Nat)} (h:yQ W v L) (hb:Below W.heap.size W W'):yQ W' v L:=by obtain ⟨V,h1,h2⟩:=h;exact ⟨V,h1.keep hb,fun i hi=>(h2 i hi).keep hb⟩
end Go.Proofs.YtjaebndajhppgaaGreatDoor
namespace Go.Proofs.YtjaebndajhppgaaGreatDoor.Cr
open Go Go.RowKit Go.Proofs.YtjaebndajhppgaaGreatDoor.Bn
def T (x:Nat):Nat:=(2*x) ^^^ (if x.testBit 23 then 25578747 else 0)
def Tn:Nat→Nat→Nat
 | 0,x=>x
 | k+1,x=>T (Tn k x)
def step (s c:Nat):Nat:=Tn 8 (s ^^^ (65536*c))
def run (s:Nat) (l:List Nat):Nat:=l.foldl step s
def start:Nat:=11994318
def sum (l:List Nat):Nat:=run start l
theorem OT (x j:Nat):(2*x).testBit j=(decide (0<j) && x.testBit (j-1)):=by
 cases j with
 | zero=>simp [Nat.testBit_zero]
 | succ j=>rw [Nat.testBit_succ,Nat.mul_div_cancel_left _ (by omega:0<2)];simp
theorem abX (j:Nat) (h:25≤j):Nat.testBit 25578747 j=false:=
 Nat.testBit_lt_two_pow (Nat.lt_of_lt_of_le (show 25578747<2 ^ 25 by decide) (Nat.pow_le_pow_right aj h))
theorem abY (x:Nat) (h:x<2 ^ 24):T x<2 ^ 24:=by apply Nat.lt_pow_two_of_testBit;intro j hj;unfold T;rw [Nat.testBit_xor,OT];rcases Nat.lt_or_ge 24 j with h1 | h1;{have h2:x.testBit (j-1)=false:=Nat.testBit_lt_two_pow (Nat.lt_of_lt_of_le h (Nat.pow_le_pow_right aj aj));rw [h2];split;{rw [abX j aj];simp};{simp}};{obtain rfl:j=24:=aj;cases hb:x.testBit 23;{simp [hb]};{simp [hb];decide}}
theorem Gy (k x:Nat) (h:x<2 ^ 24):Tn k x<2 ^ 24:=by
 induction k with
 | zero=>exact h
 | succ k ih=>exact abY _ ih
theorem in_lt (s c:Nat) (hs:s<2 ^ 24) (hc:c<256):s ^^^ (65536*c)<2 ^ 24:=Nat.xor_lt_two_pow hs aj
theorem abZ (s c:Nat) (hs:s<2 ^ 24) (hc:c<256):step s c<2 ^ 24:=Gy _ _ (in_lt s c hs hc)
theorem OU (l:List Nat):∀ (s:Nat),s<2 ^ 24→(∀ i,l.getD i 0<256)→run s l<2 ^ 24:=by
 induction l with
 | nil=>intro s hs _;exact hs
 | cons c l ih=>intro s hs hl;exact ih (step s c) (abZ s c hs (by have:=hl 0;simpa [List.getD] using this)) (fun i=>by have:=hl (i+1);simpa [List.getD] using this)
theorem sum_lt (l:List Nat) (h:∀ i,l.getD i 0<256):sum l<16777216:=OU l start aH h
theorem OV (s:Nat) (k l:List Nat):run s (k++l)=run (run s k) l:=List.foldl_append
theorem OW (s:Nat) (l:List Nat) (i:Nat) (h:i<l.length):run s (l.take (i+1))=step (run s (l.take i)) (l.getD i 0):=by rw [List.take_succ_eq_append_getElem h,OV];show step _ _=_;simp [List.getD,h]
theorem OX {l:List Nat} (i:Nat) (h:∀ i,l.getD i 0<256):∀ j,(l.take i).getD j 0<256:=by intro j;have:=h j;simp only [List.getD,List.getElem?_take] at this ⊢;split;{exact this};{decide}
end Go.Proofs.YtjaebndajhppgaaGreatDoor.Cr
namespace Go.Proofs.YtjaebndajhppgaaGreatDoor.Bx
open Go Go.RowKit Go.Proofs.YtjaebndajhppgaaGreatDoor
abbrev cK:=Int×List Nat
def three (n:Nat):List Nat:=[n / 65536 % 256,n / 256 % 256,n % 256]
theorem Cj (n:Nat):(three n).length=3:=rfl
def entry (s:cK):List Nat:=(s.1 % 256).toNat::(three s.2.length++three (Cr.sum s.2))
theorem ab0 (s:cK):(entry s).length=7:=rfl
def entries (L:List cK):List Nat:=L.flatMap entry
def bodies (L:List cK):List Nat:=L.flatMap fun s=>s.2
def head (L:List cK):List Nat:=[84,82,73,86,1,L.length % 256]++entries L
def file (L:List cK):List Nat:=head L++three (Cr.sum (head L))++bodies L
def sizes (L:List cK):Nat:=(L.map fun s=>s.2.length).sum
def total (L:List cK):Nat:=9+7*L.length+sizes L
def rise:Int→List cK→Prop
 | _,[]=>True
 | p,s::L=>p<s.1∧s.1≤255∧rise s.1 L
def May (L:List cK):Prop:=L.length≤8∧rise 0 L∧total L≤100000
theorem ab1 (s:cK) (L:List cK):entries (s::L)=entry s++entries L:=rfl
theorem ab2 (s:cK) (L:List cK):bodies (s::L)=s.2++bodies L:=rfl
theorem ab3 (L:List cK):(entries L).length=7*L.length:=by
 induction L with
 | nil=>rfl
 | cons s L ih=>rw [ab1,List.length_append,ih,ab0];simp;omega
theorem OY (L:List cK):(bodies L).length=sizes L:=by
 induction L with
 | nil=>rfl
 | cons s L ih=>rw [ab2,List.length_append,ih];simp [sizes]
theorem vF (L:List cK):(head L).length=6+7*L.length:=by unfold head;rw [List.length_append,ab3];rfl
theorem Ck (L:List cK):(file L).length=total L:=by unfold file total;rw [List.length_append,List.length_append,vF,OY,Cj];omega
theorem OZ {p:Int} {L:List cK} (h:rise p L):∀ s∈L,p<s.1∧s.1≤255:=by
 induction L generalizing p with
 | nil=>intro s hs;cases hs
 | cons t L ih=>intro s hs;obtain ⟨h1,h2,h3⟩:=h;rcases List.mem_cons.1 hs with rfl | hs;{exact ⟨h1,h2⟩};{have:=ih h3 s hs;exact ⟨aj,this.2⟩}
theorem size_le {L:List cK} {s:cK} (h:s∈L):s.2.length≤sizes L:=by
 induction L with
 | nil=>cases h
 | cons t L ih=>simp only [sizes,List.map_cons,List.sum_cons] at ih ⊢;rcases List.mem_cons.1 h with rfl | h;{omega};{have:=ih h;omega}
def Bytes (L:List cK):Prop:=∀ s∈L,∀ i,s.2.getD i 0<256
open Classical in
theorem small {L:List cK} (h:May L) (hb:Bytes L):∀ s∈L,s.2.length<16777216∧Cr.sum s.2<16777216:=fun s hs=>by have h1:=size_le hs;have h2:=h.2.2;unfold total at h2;exact ⟨aj,Cr.sum_lt _ (hb s hs)⟩
theorem Gz (L:List cK) (n:Nat):sizes (L.take n)≤sizes L:=by
 have h:sizes L=sizes (L.take n)+sizes (L.drop n):=by unfold sizes;rw [←List.sum_append,←List.map_append,List.take_append_drop]
 omega
def jf:Int→List cK→Bool
 | _,[]=>true
 | p,s::L=>(decide (p<s.1) && decide (s.1≤255)) && jf s.1 L
theorem ab4 (L:List cK):∀ p,jf p L=true↔rise p L:=by
 induction L with
 | nil=>intro p;simp [jf,rise]
 | cons s L ih=>intro p;simp only [jf,rise,Bool.and_eq_true,decide_eq_true_eq,ih];constructor <;> (intro h;obtain ⟨h1,h2⟩:=h;simp_all)
def nT (L:List cK):Bool:=decide (L.length≤8) && jf 0 L && decide (total L≤100000)
theorem O7 (L:List cK):nT L=true↔May L:=by unfold nT May;simp only [Bool.and_eq_true,decide_eq_true_eq,ab4];constructor;{rintro ⟨⟨h1,h2⟩,h3⟩;exact ⟨h1,h2,h3⟩};{rintro ⟨h1,h2,h3⟩;exact ⟨⟨h1,h2⟩,h3⟩}
theorem drop_cons (L:List cK) (i:Nat) (h:i<L.length):L.drop i=L[i]::L.drop (i+1):=List.drop_eq_getElem_cons h
theorem O8 (L:List cK) (p:Int) (i:Nat) (h:i<L.length):jf p (L.drop i)=((decide (p<L[i].1) && decide (L[i].1≤255)) && jf L[i].1 (L.drop (i+1))):=by rw [drop_cons L i h];rfl
theorem O9 (L:List cK) (i:Nat) (h:i<L.length):sizes (L.drop i)=L[i].2.length+sizes (L.drop (i+1)):=by rw [drop_cons L i h];rfl
theorem ab5 (L:List cK) (i:Nat) (h:i<L.length):entries (L.take (i+1))=entries (L.take i)++entry L[i]:=by rw [List.take_add_one,List.getElem?_eq_getElem h];unfold entries;rw [List.flatMap_append];simp
theorem ab6 (L:List cK) (i:Nat) (h:i<L.length):bodies (L.take (i+1))=bodies (L.take i)++L[i].2:=by rw [List.take_add_one,List.getElem?_eq_getElem h];unfold bodies;rw [List.flatMap_append];simp
end Go.Proofs.YtjaebndajhppgaaGreatDoor.Bx
namespace Go.Proofs.YtjaebndajhppgaaGreatDoor
open Go.Proofs.Tryz
open Go.ChangeShapes Go.WideShapes Go.ChangeAt Go.RowKit
theorem Cr.O_ (s c:Nat) (hs:s<16777216) (hc:c<256):bits BinOp.xor IntKind.i64 (s:Int) ((c:Int)*65536)=((s ^^^ (65536*c):Nat):Int):=by rw [show (c:Int)*65536=((65536*c:Nat):Int) by omega,Bn.OQ _ _ aj aj]
theorem Cr.Pb (x:Nat) (hx:x<16777216):bits BinOp.xor IntKind.i64 ((x:Int)*2) 25578747=(((2*x) ^^^ 25578747:Nat):Int):=by have:=Bn.OQ (2*x) 25578747 aj aj;rw [show (x:Int)*2=((2*x:Nat):Int) by omega];exact this
theorem Cr.top (x:Nat) (hx:x<16777216):x.testBit 23=decide (8388608≤x):=by rw [Nat.testBit_eq_decide_div_mod_eq,decide_eq_decide];show x / 8388608 % 2=1↔_;omega
theorem Cr.ab7 (x:Nat) (hx:x<16777216):bits BinOp.and IntKind.i64 ((x:Int)*2) 16777216=if 8388608≤x then 16777216 else 0:=by
 have:=Bn.Ku (2*x) 16777216 aj aj;rw [show (x:Int)*2=((2*x:Nat):Int) by omega];refine this.trans ?_;have e:2*x &&& 16777216=if 8388608≤x then 16777216 else 0:=by apply Nat.eq_of_testBit_eq;intro j;rw [Nat.testBit_and,show 16777216=2 ^ 24 by rfl,Nat.testBit_two_pow,Cr.OT];by_cases hj:24=j;{subst hj;rw [show 24-1=23 by rfl,Cr.top x hx];split;{rename_i h;simp [h];decide};{rename_i h;simp [h]}};{split;{rw [Nat.testBit_two_pow];simp [hj]};{simp [hj]}}
 rw [e];split <;> rfl
theorem ab8 (s c:Nat) (w:World) (hs:s<16777216) (hc:c<256):Calls prog 147 #[.int .i64 s,.int .u8 c] w fun e w'=>e=.returned (.int .i64 (Cr.step s c:Nat))∧w=w':=by
 obtain ⟨x0,hx0⟩:=aA (s ^^^ (65536*c));have hx16:=Cr.O_ s c hs hc;have hlt:x0<2 ^ 24:=by rw [hx0];exact Cr.in_lt s c hs hc
 have hst:Cr.step s c=Cr.Tn 8 x0:=by rw [hx0];rfl
 rw [←hx0] at hx16;rw [hst];have HL:=hid (fun k=>Cr.Gy k x0 hlt);clear hx0 hlt hst;go_enter func147,ntmps147;go_wp2;go_loop [0,10] (fun s0 s10=>∃ k:Nat,k≤8∧s0=.int .i64 (Cr.Tn k x0:Nat)∧s10=.int .i64 k) (fun _ s10=>8-(intOf s10).toNat)
 case atStart=>exact ⟨0,aj,rfl,rfl⟩
 case round=>
  obtain ⟨k,hk,rfl,rfl⟩:=hrel;have hx:=HL.out k;have hT:Cr.Tn (k+1) x0=Cr.T (Cr.Tn k x0):=rfl;by_cases hlt:k<8
  · obtain ⟨x,hx0⟩:=aA (Cr.Tn k x0);rw [←hx0] at hx hT ⊢;have hx24:x<16777216:=hx;have hand:=Cr.ab7 x hx24;have hxg:=Cr.Pb x hx24;have htop:=Cr.top x hx24;by_cases h:8388608≤x
    · rw [if_pos h] at hand;have jc:Cr.Tn (k+1) x0=(2*x) ^^^ 25578747:=(by rw [hT];unfold Cr.T;rw [htop,decide_eq_true h];rfl);obtain ⟨y,hy⟩:=aA ((2*x) ^^^ 25578747);rw [←hy] at hxg jc;have HT:=hid jc;clear hT jc hx0 htop hy hx;go_wp2;go_round
      (case rel=>exact ⟨k+1,aj,by rw [HT.out],aN⟩);case measure=>simp [intOf];omega
    · rw [if_neg h] at hand;have jc:Cr.Tn (k+1) x0=2*x:=(by rw [hT];unfold Cr.T;rw [htop,decide_eq_false h];simp);have HT:=hid jc;clear hT jc hx0 htop hx hxg;go_wp2;go_round
      (case rel=>exact ⟨k+1,aj,by rw [HT.out];go_num,aN⟩);case measure=>simp [intOf];omega
  {obtain rfl:k=8:=aj;clear hT hx;go_wp2;go_ret;exact ⟨rfl,rfl⟩}
theorem Cr.ab9 (L:List (List Nat)) (i:Nat) (h:i<L.length):(L.take (i+1)).flatten=(L.take i).flatten++L.getD i []:=by rw [List.take_succ_eq_append_getElem h,List.flatten_append];simp only [List.flatten_cons,List.flatten_nil,List.append_nil,List.getD,List.getElem?_eq_getElem h,Option.getD_some]
theorem Cr.ab_ (L:List (List Nat)) (h:∀ i j,(L.getD i []).getD j 0<256):∀ j,L.flatten.getD j 0<256:=by
 have key:∀ (K:List (List Nat)),(∀ k∈K,∀ x∈k,x<256)→∀ x∈K.flatten,x<256:=by intro K hK x hx;obtain ⟨k,h1,h2⟩:=List.mem_flatten.1 hx;exact hK k h1 x h2
 have hL:∀ x∈L.flatten,x<256:=key L (fun k hk x hx=>by obtain ⟨i,hi,rfl⟩:=List.mem_iff_getElem.1 hk;obtain ⟨j,hj,rfl⟩:=List.mem_iff_getElem.1 hx;have:=h i j;simpa [List.getD,hi,hj] using this);intro j;rcases Nat.lt_or_ge j L.flatten.length with h1 | h1;{have:=hL (L.flatten[j]) (List.getElem_mem h1);simp only [List.getD,List.getElem?_eq_getElem h1,Option.getD_some];exact this};{rw [show L.flatten.getD j 0=0 by simp only [List.getD,List.getElem?_eq_none h1];rfl];decide}
theorem Cr.acd {L:List (List Nat)} (h:∀ i j,(L.getD i []).getD j 0<256) (i:Nat):∀ k j,((L.take i).getD k []).getD j 0<256:=by intro k j;have:=h k j;by_cases hk:k<i;{simpa [List.getD,hk] using this};{rw [show (L.take i).getD k []=[] by simp only [List.getD,List.getElem?_take,if_neg hk];rfl];simp}
theorem ace (v:Value) (L:List (List Nat)) (w:World) (hR:yQ w v L) (hb:∀ i j,(L.getD i []).getD j 0<256) :
  Calls prog 103 #[v] w fun e w'=>e=.returned (.int .i64 (Cr.sum L.flatten:Nat))∧w=w':=by
 obtain ⟨V,⟨a,cap,rfl,h1,h2,h3,hr⟩,hV⟩:=hR;obtain ⟨n,hn⟩:=aA L.length;rw [←hn] at h1 hr hV ⊢;have hnm:n≤9223372036854775807:=by unfold maxLen at h2;omega
 have HN:=hid hn;have HR:=hid hr;have HV:=hid hV;have HB:=hid hb;clear hn hr hV hb h3;go_enter func103,ntmps103;go_wp2;go_loop [3,10] (fun s3 s10=>∃ i:Nat,i≤n∧s3=.int .i64 (Cr.sum (L.take i).flatten:Nat)∧s10=.int .i64 i) (fun _ s10=>n-(intOf s10).toNat)
 case atStart=>exact ⟨0,aj,rfl,rfl⟩
 case round=>
  obtain ⟨i,hi,rfl,rfl⟩:=hrel;by_cases hlt:i<n
  · obtain ⟨b,off,rfl,hc⟩:=HR.out.get hlt;obtain ⟨b2,cap2,hv2,k1,k2,k3,hr2⟩:=HV.out i hlt;have c0:=hc i hlt;rw [hv2] at c0;obtain ⟨m,hm⟩:=aA ((L.getD i []).length);rw [←hm] at c0 k1 hr2;have hmm:m≤9223372036854775807:=(by unfold maxLen at k2;omega);have hs0:=Cr.sum_lt _ (Cr.ab_ (L.take i) (Cr.acd HB.out i));obtain ⟨s0,GA⟩:=aA (Cr.sum (L.take i).flatten);rw [←GA] at hs0 ⊢;have HS:=hid (show Cr.sum (L.take (i+1)).flatten=Cr.run s0 (L.getD i []) by rw [Cr.ab9 L i (by rw [←HN.out];exact hlt),GA];exact Cr.OV _ _ _);have HM:=hid hm;have HR2:=hid hr2;clear hv2 hc k3 hm hr2 GA;go_wp2;go_loop [3,16] (fun s3 s16=>∃ j:Nat,j≤m∧s3=.int .i64 (Cr.run s0 ((L.getD i []).take j):Nat)∧s16=.int .i64 j) (fun _ s16=>m-(intOf s16).toNat)
    (case atStart=>exact ⟨0,aj,rfl,rfl⟩);case round=>
     obtain ⟨j,hj,rfl,rfl⟩:=hrel;by_cases hjl:j<m
     · obtain ⟨b3,aer,rfl,hc3⟩:=HR2.out.get hjl;have c1:=hc3 j hjl;have hcb:=HB.out i j;have hsb:=Cr.OU ((L.getD i []).take j) s0 hs0 (Cr.OX j (HB.out i));have HT:=hid (Cr.OW s0 (L.getD i []) j (by rw [←HM.out];exact hjl));obtain ⟨c,hc0⟩:=aA ((L.getD i []).getD j 0);obtain ⟨s1,hs1⟩:=aA (Cr.run s0 ((L.getD i []).take j));rw [←hs1] at hsb HT ⊢;rw [←hc0] at hcb c1 HT;simp only [aS] at c1;have CA:=hid (fun w=>ab8 s1 c w hsb hcb);clear hc3 hs1 hc0;(go_wp2_with (go_at_call 147;refine (CA.out _).mono ?_;rintro e w' ⟨rfl,rfl⟩));go_round
       (case rel=>exact ⟨j+1,aj,by rw [HT.out],aN⟩);case measure=>simp [intOf];omega
     · obtain rfl:j=m:=aj;have HF:=hid (show Cr.run s0 ((L.getD i []).take j)=Cr.sum (L.take (i+1)).flatten by rw [HS.out,HM.out,List.take_length]);go_wp2;go_round
       (case rel=>exact ⟨i+1,aj,by rw [HF.out],aN⟩);case measure=>simp [intOf];omega
  {obtain rfl:i=n:=aj;have HF:=hid (show L.take i=L by rw [HN.out,List.take_length]);go_wp2;go_ret;exact ⟨by rw [HF.out];rfl,rfl⟩}
theorem acf {W:World} {v:Value} {l:List Nat} (h:BytesAt W v l) {b:Nat} (hb:W.heap.size=b) (t:TypeId):yQ (W.alloc (.cells #[v] t)) (.slice (some ⟨b,0,none⟩) 1 1) [l]:=by
 refine ⟨fun _=>v,lT.built hb (fun i hi=>by obtain rfl:i=0:=aj;rfl) (by unfold maxLen;omega),fun i hi=>?_⟩;obtain rfl:i=0:=by simpa using hi
 exact h.keep ((Below.refl _ _).alloc ay _)
theorem acg {l:List Nat} (h:∀ i,l.getD i 0<256):∀ i j,([l].getD i []).getD j 0<256:=by
 intro i j;cases i with
 | zero=>exact h j
 | succ i=>simp [List.getD]
theorem Pf {W:World} {v:Value} {l:List Nat} (h:BytesAt W v l) (hl:∀ i,l.getD i 0<256) {b:Nat} (hb:W.heap.size=b) :
  Calls prog 103 #[.slice (some ⟨b,0,none⟩) 1 1] (W.alloc (.cells #[v] 32)) fun e w'=>e=.returned (.int .i64 (Cr.sum l:Nat))∧W.alloc (.cells #[v] 32)=w':=by have:=ace _ [l] _ (acf h hb 32) (acg hl);rwa [show [l].flatten=l by simp] at this
end Go.Proofs.YtjaebndajhppgaaGreatDoor
namespace Go.Proofs.YtjaebndajhppgaaGreatDoor.So
def texts (l:List TT):List (List UInt8):=(terms l).map sh
def iP (t:Rg.T):List Int:=[t.1,t.2.1,t.2.2]
def jg (l:List TT):List Int:=(ids l).flatMap iP
def wid (l:List TT):Nat:=Bn.width (terms l).length
def packed (l:List TT):List Nat:=(List.range (Pm.size (3*l.length) (wid l))).map (Pm.byte (jg l) (wid l))
def nY (l:List TT):List Nat:=Fr.dX (texts l) (texts l).length
def jh (l:List TT):List Nat:=[l.length / 256 % 256,l.length % 256]++packed l
def secs (l:List TT):List Bx.cK:=[(1,nY l),(2,jh l)]
def file (l:List TT):List Nat:=Bx.file (secs l)
theorem vG (l:List TT):(jg l).length=3*l.length:=by
 have h:∀ r:List Rg.T,(r.flatMap iP).length=3*r.length:=by
  intro r;induction r with
  | nil=>rfl
  | cons t r ih=>rw [List.flatMap_cons,List.length_append,ih,List.length_cons];show 3+_=_;omega
 unfold jg;rw [h,iA]
theorem Pg (l:List TT):(texts l).length≤3*l.length:=by unfold texts;rw [List.length_map];exact nK l
theorem ach {t:T3} (h:dJ t):1≤(sh t).length:=by obtain ⟨k,a,b⟩:=t;obtain ⟨n,e,h1,h2⟩:=Tm.iH (show Tm.is ((k:Nat):Int) a b=true from h);have e2:k=n:=aj;subst e2;show 1≤(Tm.aX k a b).length;unfold Tm.aX;rcases (show k=1∨k=2∨k=3∨k=4∨k=5 by omega) with rfl | rfl | rfl | rfl | rfl <;> simp
theorem aci {t:T3} (h:dJ t):(sh t).length≤250:=by obtain ⟨k,a,b⟩:=t;exact (Tm.gY (show Tm.is ((k:Nat):Int) a b=true from h)).1
theorem yR {l:List TT} (h:∀ p∈l,Tm.bG p=true) (hn:l.length≤100):Fr.May (texts l):=by
 have hl:=Pg l;refine ⟨aj,fun i hi=>?_⟩;have hi2:i<(terms l).length:=by unfold texts at hi;rwa [List.length_map] at hi
 have hat:∀ j (hj:j<(terms l).length),Fr.at_ (texts l) j=sh (terms l)[j]:=fun j hj=>by unfold Fr.at_ texts;simp [List.getD,hj]
 refine ⟨?_,?_,fun h0=>?_⟩;{rw [hat i hi2];exact ach (uP h _ (List.getElem_mem _))};{rw [hat i hi2];exact aci (uP h _ (List.getElem_mem _))};{rw [hat i hi2,hat (i-1) aj];have hc:cT (terms l)[i-1] (terms l)[i]<0:=(List.pairwise_iff_getElem.1 (uO h)) (i-1) i aj hi2 aj;have hb:=Tm.Q6 (sh (terms l)[i-1]) (sh (terms l)[i]);exact Tm.Q8.1 (by unfold cT at hc;omega)}
theorem acj {l:List TT} {x:Int} (h:x∈jg l):0≤x∧x.toNat≤(terms l).length:=by unfold jg at h;obtain ⟨t,ht,hx⟩:=List.mem_flatMap.1 h;unfold ids at ht;obtain ⟨p,_,rfl⟩:=List.mem_map.1 ht;have b1:=uM (E:=terms l) p.1;have b2:=uM (E:=terms l) p.2.1;have b3:=uM (E:=terms l) p.2.2;unfold iP nums at hx;simp only [List.mem_cons,List.not_mem_nil,or_false] at hx;rcases hx with rfl | rfl | rfl <;> exact ⟨aj,aj⟩
theorem Ph {l:List TT} (hn:l.length≤100):wid l≤9:=(Bn.width_le _ _).2 (by have:=nK l;show _<512;omega)
theorem Pj {l:List TT} (hn:l.length≤100):Pm.May (jg l) (wid l):=by
 have hw:=Ph hn;have hlen:=vG l;refine ⟨aj,aj,aj,fun i hi=>?_⟩;have hm:(jg l).getD i 0∈jg l:=by
  have:(jg l).getD i 0=(jg l)[i]:=by simp [List.getD,hi]
  rw [this];exact List.getElem_mem _
 obtain ⟨h0,h1⟩:=acj hm;refine ⟨h0,?_⟩;have hlt:(terms l).length<2 ^ (wid l):=(Bn.width_le _ _).1 ay;rw [Int.toNat_natCast];omega
theorem size_le {l:List TT} (hn:l.length≤100):Pm.size (3*l.length) (wid l)≤338:=by have hw:=Ph hn;have h:3*l.length*wid l≤300*9:=Nat.mul_le_mul aj hw;unfold Pm.size;omega
theorem GD (l:List TT):(packed l).length=Pm.size (3*l.length) (wid l):=by unfold packed;simp
theorem Pk {l:List TT} (h:∀ p∈l,Tm.bG p=true) (hn:l.length≤100):(nY l).length≤75602:=by have h1:=Fr.Ch (yR h hn) (texts l).length ay;have h2:=Pg l;unfold nY;omega
theorem Pn {l:List TT} (hn:l.length≤100):(jh l).length≤340:=by have h1:=size_le hn;unfold jh;rw [List.length_append,GD];show 2+_≤_;omega
theorem Po {l:List TT} (h:∀ p∈l,Tm.bG p=true) (hn:l.length≤100):Bx.May (secs l):=by have h1:=Pk h hn;have h2:=Pn hn;refine ⟨by show 2≤8;omega,⟨by show (0:Int)<1;omega,by show (1:Int)≤255;omega,by show (1:Int)<2;omega,by show (2:Int)≤255;omega,trivial⟩,?_⟩;show 9+7*2+((nY l).length+((jh l).length+0))≤100000;omega
theorem Pp {l:List Nat} (h:∀ x∈l,x<256) (i:Nat):l.getD i 0<256:=by by_cases hi:i<l.length;{have:l.getD i 0=l[i]:=(by simp [List.getD,hi]);rw [this];exact h _ (List.getElem_mem _)};{have:l.getD i 0=0:=(by simp [List.getD,Nat.le_of_not_lt hi]);rw [this];omega}
theorem acn (l:List TT):∀ x∈packed l,x<256:=fun x hx=>by unfold packed at hx;obtain ⟨t,_,rfl⟩:=List.mem_map.1 hx;exact Pm.Vr _ _ _
theorem aco (l:List TT):∀ x∈jh l,x<256:=fun x hx=>by unfold jh at hx;rcases List.mem_append.1 hx with h | h;{simp only [List.mem_cons,List.not_mem_nil,or_false] at h;rcases h with rfl | rfl <;> exact Nat.mod_lt _ aj};{exact acn l x h}
theorem acp {l:List TT} (h:∀ p∈l,Tm.bG p=true) (hn:l.length≤100):∀ x∈nY l,x<256:=Fr.OL (yR h hn) _ ay
theorem Pq {l:List TT} (h:∀ p∈l,Tm.bG p=true) (hn:l.length≤100):Bx.Bytes (secs l):=by intro s hs;unfold secs at hs;simp only [List.mem_cons,List.not_mem_nil,or_false] at hs;rcases hs with rfl | rfl;{exact Pp (acp h hn)};{exact Pp (aco l)}
end Go.Proofs.YtjaebndajhppgaaGreatDoor.So
