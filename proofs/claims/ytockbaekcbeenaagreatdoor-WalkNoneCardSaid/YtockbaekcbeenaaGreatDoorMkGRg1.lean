/-GRg1-/
import Derived.Test.YtockbaekcbeenaaGreatDoorMkHd0
import Derived.WalkKit
import Derived.Lib.TrailingZeros
set_option linter.unusedVariables false
set_option maxRecDepth 100000
set_option linter.unusedSimpArgs false
namespace Go.Proofs.YtockbaekcbeenaaGreatDoor.Bm
open Go Go.RowKit
def cnt (l:List Bool) (i:Nat):Nat:=(l.take i).count true
theorem Dq (l:List Bool):cnt l 0=0:=by simp [cnt]
theorem H8 (l:List Bool) (i:Nat):cnt l (i+1)=cnt l i+(if l.getD i false=true then 1 else 0):=by unfold cnt;rw [List.take_add_one,List.count_append];congr 1;by_cases h:i<l.length;{simp [List.getD,h];cases l[i] <;> simp};{simp [List.getD,List.getElem?_eq_none (Nat.le_of_not_lt h)]}
theorem cnt_mono (l:List Bool) {i j:Nat} (h:i≤j):cnt l i≤cnt l j:=by
 induction h with
 | refl=>exact Nat.le_refl _
 | step _ ih=>rw [H8];omega
theorem Dt (l:List Bool) (i:Nat):cnt l i≤i:=by
 induction i with
 | zero=>simp [Dq]
 | succ n ih=>rw [H8];split <;> omega
theorem Nq (l:List Bool) {i:Nat} (h:l.length≤i):cnt l i=cnt l l.length:=by unfold cnt;rw [List.take_of_length_le h,List.take_of_length_le aG]
theorem Nr (l:List Bool) (i:Nat):cnt l i≤cnt l l.length:=by by_cases h:i≤l.length;{exact cnt_mono l h};{rw [Nq l ay];exact Nat.le_refl _}
def rank (l:List Bool) (i:Int):Nat:=cnt l i.toNat
def sel (l:List Bool) (k:Int):Int:=
 match (List.range l.length).find? (fun i=>l.getD i false && decide ((cnt l i:Int)=k)) with
 | some i=>(i:Int)
 | none=>-1
def next (l:List Bool) (i:Int):Int:=sel l (rank l i)
def pop:Nat→Nat→Nat
 | 0,_=>0
 | n+1,x=>x % 2+pop n (x / 2)
theorem WE (n:Nat):pop n 0=0:=by induction n with | zero=>rfl | succ n ih=>simp [pop,ih]
theorem Ns (n x:Nat):pop n x≤n:=by
 induction n generalizing x with
 | zero=>simp [pop]
 | succ n ih=>simp only [pop];have:=ih (x / 2);omega
def val (f:Nat→Bool):Nat→Nat
 | 0=>0
 | n+1=>(if f 0 then 1 else 0)+2*val (fun j=>f (j+1)) n
theorem Du (n:Nat):∀ f:Nat→Bool,val f n<2 ^ n:=by
 induction n with
 | zero=>intro f;simp [val]
 | succ n ih=>intro f;simp only [val,Nat.pow_succ];have:=ih (fun j=>f (j+1));split <;> omega
theorem og (n:Nat):∀ (f:Nat→Bool) (j:Nat),(val f n).testBit j=(decide (j<n) && f j):=by
 induction n with
 | zero=>intro f j;simp [val]
 | succ n ih=>
  intro f j;cases j with
  | zero=>simp only [val,Nat.testBit_zero];cases f 0 <;> simp
  | succ j=>rw [Nat.testBit_succ];have:val f (n+1) / 2=val (fun j=>f (j+1)) n:=(by simp only [val];split <;> omega);rw [this,ih];simp
theorem val_congr {n:Nat} {f g:Nat→Bool} (h:∀ j,j<n→f j=g j):val f n=val g n:=by apply Nat.eq_of_testBit_eq;intro j;rw [og,og];by_cases hj:j<n;{rw [h j hj]};{simp [hj]}
theorem WG (n:Nat):∀ (k:Nat) (l:List Bool) (a:Nat),k≤n→pop k (val (fun j=>l.getD (a+j) false) n)+cnt l a=cnt l (a+k):=by
 induction n with
 | zero=>intro k l a h;obtain rfl:k=0:=ay;simp [pop]
 | succ n ih=>
  intro k l a h;cases k with
  | zero=>simp [pop]
  | succ k=>have e1:val (fun j=>l.getD (a+j) false) (n+1) % 2=(if l.getD a false=true then 1 else 0):=(by simp only [val,Nat.add_zero];split <;> omega);have e2:val (fun j=>l.getD (a+j) false) (n+1) / 2=val (fun j=>l.getD (a+1+j) false) n:=(by simp only [val];rw [show (fun j=>l.getD (a+(j+1)) false)=(fun j=>l.getD (a+1+j) false) from funext fun j=>by rw [show a+(j+1)=a+1+j by omega]];split <;> omega);have:=ih k l (a+1) ay;simp only [pop,e1,e2];rw [H8] at this;rw [show a+(k+1)=a+1+k by omega,←this];omega
def word (l:List Bool) (i:Nat):Nat:=val (fun j=>l.getD (64*i+j) false) 64
theorem word_lt (l:List Bool) (i:Nat):word l i<18446744073709551616:=Du 64 _
theorem WH (l:List Bool) (i j:Nat) (hj:j<64):(word l i).testBit j=l.getD (64*i+j) false:=by unfold word;rw [og];simp [hj]
theorem Nt (l:List Bool) (i k:Nat) (hk:k≤64):cnt l (64*i)+pop k (word l i)=cnt l (64*i+k):=by have:=WG 64 k l (64*i) hk;unfold word;omega
theorem getD_take (l:List Bool) (k i:Nat):(l.take k).getD i false=if i<k then l.getD i false else false:=by simp only [List.getD,List.getElem?_take];split <;> simp_all
theorem WI (l:List Bool) (k i:Nat) (h:l.getD k false=false):word (l.take (k+1)) i=word (l.take k) i:=by unfold word;refine val_congr fun j _=>?_;rw [getD_take,getD_take];by_cases h1:64*i+j<k;{rw [if_pos h1,if_pos ay]};{rw [if_neg h1];split;{rw [show 64*i+j=k by omega,h]};{rfl}}
theorem WJ (l:List Bool) (k i:Nat) (h:i≠k / 64):word (l.take (k+1)) i=word (l.take k) i:=by unfold word;refine val_congr fun j hj=>?_;rw [getD_take,getD_take];by_cases h1:64*i+j<k;{rw [if_pos h1,if_pos ay]};{rw [if_neg h1,if_neg ay]}
theorem WK (l:List Bool) (k:Nat) (h:l.getD k false=true):word (l.take (k+1)) (k / 64)=word (l.take k) (k / 64) ||| 2 ^ (k % 64):=by apply Nat.eq_of_testBit_eq;intro j;unfold word;rw [Nat.testBit_or,og,og,Nat.testBit_two_pow,getD_take,getD_take];by_cases hj:j<64;{by_cases he:k % 64=j;{rw [if_pos (show 64*(k / 64)+j<k+1 by omega),show 64*(k / 64)+j=k by omega,h];simp [hj,he]};{simp only [hj,he,decide_true,Bool.true_and,decide_false,Bool.or_false];by_cases h1:64*(k / 64)+j<k;{rw [if_pos h1,if_pos ay]};{rw [if_neg h1,if_neg ay]}}};{have:k % 64≠j:=ay;simp [hj,this]}
theorem WM (i:Nat):word [] i=0:=by unfold word;apply Nat.eq_of_testBit_eq;intro j;rw [og];simp
theorem WO (a b x:Nat):pop (a+b) x=pop a x+pop b (x / 2 ^ a):=by
 induction a generalizing x with
 | zero=>simp [pop]
 | succ a ih=>rw [show a+1+b=(a+b)+1 by omega];simp only [pop];rw [ih,Nat.pow_succ,Nat.div_div_eq_div_mul,Nat.mul_comm 2];omega
theorem lI (r q M t s:Nat) (ht:t<2 ^ r) (hs:s<2 ^ r):(2 ^ r*q+t) &&& (2 ^ r*M+s)=2 ^ r*(q &&& M)+(t &&& s):=by
 have h1:=Nat.and_div_two_pow (a:=2 ^ r*q+t) (b:=2 ^ r*M+s) (n:=r);have h2:=Nat.and_mod_two_pow (a:=2 ^ r*q+t) (b:=2 ^ r*M+s) (n:=r);have e1:(2 ^ r*q+t) / 2 ^ r=q:=by rw [Nat.mul_add_div (Nat.two_pow_pos r),Nat.div_eq_of_lt ht];rfl
 have e2:(2 ^ r*M+s) / 2 ^ r=M:=by rw [Nat.mul_add_div (Nat.two_pow_pos r),Nat.div_eq_of_lt hs];rfl
 have e3:(2 ^ r*q+t) % 2 ^ r=t:=by rw [Nat.mul_add_mod,Nat.mod_eq_of_lt ht]
 have e4:(2 ^ r*M+s) % 2 ^ r=s:=by rw [Nat.mul_add_mod,Nat.mod_eq_of_lt hs]
 rw [e1,e2] at h1;rw [e3,e4] at h2;rw [←h1,←h2];exact (Nat.div_add_mod _ _).symm
def M0:Nat→Nat | 0=>0 | n+1=>4*M0 n+1
def M1:Nat→Nat | 0=>0 | n+1=>16*M1 n+3
def M2:Nat→Nat | 0=>0 | n+1=>256*M2 n+15
def S4:Nat→Nat→Nat→Prop | 0,y,s=>y=0∧s=0 | n+1,y,s=>y % 4≤2∧∃ s',S4 n (y / 4) s'∧s=y % 4+s'
def qy:Nat→Nat→Nat→Prop | 0,y,s=>y=0∧s=0 | n+1,y,s=>y % 16≤4∧∃ s',qy n (y / 16) s'∧s=y % 16+s'
def vw:Nat→Nat→Nat→Prop | 0,y,s=>y=0∧s=0 | n+1,y,s=>y % 256≤8∧∃ s',vw n (y / 256) s'∧s=y % 256+s'
theorem zV (x q t M s r:Nat) (hx:x=2 ^ r*q+t) (ht:t<2 ^ r) (hs:s<2 ^ r):x &&& (2 ^ r*M+s)=2 ^ r*(q &&& M)+(t &&& s):=by rw [hx,lI r q M t s ht hs]
theorem step1 (n:Nat):∀ x,x<4 ^ n→S4 n ((x / 2 &&& M0 n)+(x &&& M0 n)) (pop (2*n) x):=by
 induction n with
 | zero=>intro x h;simp [S4,M0,pop]
 | succ n ih=>
  intro x hx;rw [Nat.pow_succ] at hx;have h:=ih (x / 4) ay;have a1:=zV (x / 2) (x / 4 / 2) (x / 2 % 4) (M0 n) 1 2 ay ay ay;have a2:=zV x (x / 4) (x % 4) (M0 n) 1 2 ay ay ay;have b1:x / 2 % 4 &&& 1=x / 2 % 2:=by rw [Nat.and_one_is_mod];omega
  have b2:x % 4 &&& 1=x % 2:=by rw [Nat.and_one_is_mod];omega
  rw [b1] at a1;rw [b2] at a2;simp only [Nat.reducePow] at a1 a2;simp only [M0,a1,a2,S4];generalize hA:(x / 4 / 2 &&& M0 n)=A at *;generalize hB:(x / 4 &&& M0 n)=B at *;rw [show (4*A+x / 2 % 2+(4*B+x % 2)) / 4=A+B by omega,show (4*A+x / 2 % 2+(4*B+x % 2)) % 4=x / 2 % 2+x % 2 by omega];refine ⟨ay,_,h,?_⟩;rw [show 2*(n+1)=2+2*n by omega,WO];simp only [pop,Nat.reducePow];omega
theorem step2 (n:Nat):∀ y s,S4 (2*n) y s→qy n ((y / 4 &&& M1 n)+(y &&& M1 n)) s:=by
 induction n with
 | zero=>intro y s h;simp only [S4] at h;simp [qy,M1,h.1,h.2]
 | succ n ih=>
  intro y s h;rw [show 2*(n+1)=2*n+1+1 by omega] at h;simp only [S4] at h;obtain ⟨h1,s1,⟨h2,s2,h3,rfl⟩,rfl⟩:=h;rw [Nat.div_div_eq_div_mul] at h3;have h:=ih _ _ h3;have a1:=zV (y / 4) (y / (4*4) / 4) (y / 4 % 16) (M1 n) 3 4 ay ay ay;have a2:=zV y (y / (4*4)) (y % 16) (M1 n) 3 4 ay ay ay;have b1:y / 4 % 16 &&& 3=y / 4 % 4:=by rw [show 3=2 ^ 2-1 by rfl,Nat.and_two_pow_sub_one_eq_mod];omega
  have b2:y % 16 &&& 3=y % 4:=by rw [show 3=2 ^ 2-1 by rfl,Nat.and_two_pow_sub_one_eq_mod];omega
  rw [b1] at a1;rw [b2] at a2;simp only [Nat.reducePow] at a1 a2;simp only [M1,a1,a2,qy];generalize hA:(y / (4*4) / 4 &&& M1 n)=A at *;generalize hB:(y / (4*4) &&& M1 n)=B at *;rw [show (16*A+y / 4 % 4+(16*B+y % 4)) / 16=A+B by omega,show (16*A+y / 4 % 4+(16*B+y % 4)) % 16=y / 4 % 4+y % 4 by omega];exact ⟨ay,_,h,ay⟩
theorem WQ (n:Nat):∀ y s,qy (2*n) y s→vw n ((y / 16+y) &&& M2 n) s:=by
 induction n with
 | zero=>intro y s h;simp only [qy] at h;simp [vw,M2,h.1,h.2]
 | succ n ih=>
  intro y s h;rw [show 2*(n+1)=2*n+1+1 by omega] at h;simp only [qy] at h;obtain ⟨h1,s1,⟨h2,s2,h3,rfl⟩,rfl⟩:=h;rw [Nat.div_div_eq_div_mul] at h3;have hd:y / (16*16) % 16≤4:=by
   cases n with
   | zero=>simp only [qy] at h3;omega
   | succ n=>rw [show 2*(n+1)=2*n+1+1 by omega] at h3;exact h3.1
  have h:=ih _ _ h3;have hcd:y / 16 / 16=y / (16*16):=Nat.div_div_eq_div_mul _ _ _;have a1:=zV (y / 16+y) (y / (16*16) / 16+y / (16*16)) ((y / 16+y) % 256) (M2 n) 15 8 ay ay ay;have b1:(y / 16+y) % 256 &&& 15=y / 16 % 16+y % 16:=by rw [show 15=2 ^ 4-1 by rfl,Nat.and_two_pow_sub_one_eq_mod];omega
  rw [b1] at a1;simp only [Nat.reducePow] at a1;simp only [M2,a1,vw];generalize hA:(y / (16*16) / 16+y / (16*16) &&& M2 n)=A at *;rw [show (256*A+(y / 16 % 16+y % 16)) / 256=A by omega,show (256*A+(y / 16 % 16+y % 16)) % 256=y / 16 % 16+y % 16 by omega];exact ⟨ay,_,h,ay⟩
theorem tJ {n y s:Nat} (h:vw (n+1) y s):∃ d y' s',d≤8∧y=d+256*y'∧s=d+s'∧vw n y' s':=by obtain ⟨h0,s',h1,h2⟩:=h;exact ⟨_,_,s',h0,ay,h2,h1⟩
theorem H9 {B r q m:Nat} (h:B=r+m*q) (hr:r<m):B / m=q:=by rw [h,Nat.add_mul_div_left _ _ ay,Nat.div_eq_of_lt hr,Nat.zero_add]
theorem WS (y s:Nat) (h:vw 8 y s):y<2 ^ 60 ∧
  (y+y / 256+(y+y / 256) / 65536+(y+y / 256+(y+y / 256) / 65536) / 4294967296) % 128=s:=by
 obtain ⟨a,Y1,s1,ha,h0,g0,h⟩:=tJ h;obtain ⟨b,Y2,s2,hb,h1,g1,h⟩:=tJ h;obtain ⟨c,Y3,s3,hc,h2,g2,h⟩:=tJ h;obtain ⟨d,Y4,s4,hd,h3,g3,h⟩:=tJ h;obtain ⟨e,Y5,s5,he,h4,g4,h⟩:=tJ h;obtain ⟨f,Y6,s6,hf,h5,g5,h⟩:=tJ h;obtain ⟨g,Y7,s7,hg,h6,g6,h⟩:=tJ h;obtain ⟨k,Y8,s8,hk,h7,g7,h⟩:=tJ h;obtain ⟨h8,g8⟩:=h;have hs:s=a+b+c+d+e+f+g+k:=ay;clear g0 g1 g2 g3 g4 g5 g6 g7 g8;have e1:y / 256=Y1:=H9 h0 ay;rw [e1];have e2:(y+Y1) / 65536=Y2+Y3:=H9 (r:=(a+b)+256*(b+c)) ay ay;rw [e2];have e3:(y+Y1+(Y2+Y3)) / 4294967296=Y4+Y5+Y6+Y7:=
  H9 (r:=(a+b+c+d)+256*(b+c+d+e)+65536*(c+d+e+f)+16777216*(d+e+f+g)) ay ay
 rw [e3];refine ⟨by clear e1 e2 e3;omega,?_⟩;have e4:y+Y1+(Y2+Y3)+(Y4+Y5+Y6+Y7)=128*(2*(Y1+Y2+Y3+Y4+Y5+Y6+Y7+Y8))+s:=by clear e1 e2 e3;omega
 rw [e4,Nat.mul_add_mod];exact Nat.mod_eq_of_lt (by clear e1 e2 e3 e4 h0 h1 h2 h3 h4 h5 h6 h7;omega)
def o1 (x:Int):Int:=IntKind.u64.wrap (bits .and .u64 (x / 2) 6148914691236517205+bits .and .u64 x 6148914691236517205)
def o2 (x:Int):Int:=IntKind.u64.wrap (bits .and .u64 (x / 4) 3689348814741910323+bits .and .u64 x 3689348814741910323)
def o3 (x:Int):Int:=bits .and .u64 (IntKind.u64.wrap (x / 16+x)) 1085102592571150095
def o4 (x:Int):Int:=IntKind.u64.wrap (x+x / 256)
def o5 (x:Int):Int:=IntKind.u64.wrap (x+x / 65536)
def o6 (x:Int):Int:=IntKind.u64.wrap (x+x / 4294967296)
def ones (x:Int):Int:=bits .and .i64 (wrap64 (o6 (o5 (o4 (o3 (o2 (o1 x))))))) 127
theorem rC (n:Nat) (h:n<18446744073709551616):IntKind.u64.wrap (n:Int)=n:=by
 have:IntKind.u64.wrap (n:Int)=(n:Int) % 18446744073709551616:=by simp [IntKind.wrap,IntKind.bits,IntKind.signed]
 rw [this];omega
theorem WT:∀ (n y s:Nat),S4 n y s→y<4 ^ n:=by
 intro n;induction n with
 | zero=>intro y s h;simp only [S4] at h;simp [h.1]
 | succ n ih=>intro y s h;obtain ⟨_,s',h2,_⟩:=h;have:=ih _ _ h2;rw [Nat.pow_succ];omega
theorem WU:∀ (n y s:Nat),qy n y s→3*y<16 ^ n:=by
 intro n;induction n with
 | zero=>intro y s h;simp only [qy] at h;simp [h.1]
 | succ n ih=>intro y s h;obtain ⟨h0,s',h2,_⟩:=h;have:=ih _ _ h2;rw [Nat.pow_succ];omega
theorem WV (x:Nat) (h:x<18446744073709551616):ones x=(pop 64 x:Nat):=by
 have s1:=step1 32 x (by simpa using h);have l1:=WT _ _ _ s1;have s2:=step2 16 _ _ s1;have l2:=WU _ _ _ s2;have s3:=WQ 8 _ _ s2;obtain ⟨l3,s4⟩:=WS _ _ s3;clear s1 s2 s3;have m0:M0 32=6148914691236517205:=aL;have m1:M1 16=3689348814741910323:=aL;have m2:M2 8=1085102592571150095:=aL;simp only [m0,m1,m2] at l1 l2 l3 s4;clear m0 m1 m2;have hp':pop (2*32) x=pop 64 x:=rfl;rw [hp'] at s4;generalize pop 64 x=p at *;have e1:o1 x=((x / 2 &&& 6148914691236517205)+(x &&& 6148914691236517205):Nat):=by unfold o1;rw [show (x:Int) / 2=((x / 2:Nat):Int) by omega,show (6148914691236517205:Int)=((6148914691236517205:Nat):Int) by rfl,u64_and_nat _ _ ay ay,u64_and_nat _ _ ay ay,←Int.natCast_add,rC _ (by simpa using l1)]
 generalize (x / 2 &&& 6148914691236517205)+(x &&& 6148914691236517205)=y at *;have ly:y<18446744073709551616:=by simpa using l1
 have e2:o2 y=((y / 4 &&& 3689348814741910323)+(y &&& 3689348814741910323):Nat):=by unfold o2;rw [show (y:Int) / 4=((y / 4:Nat):Int) by omega,show (3689348814741910323:Int)=((3689348814741910323:Nat):Int) by rfl,u64_and_nat _ _ ay ay,u64_and_nat _ _ ay ay,←Int.natCast_add,rC _ (by simp at l2;omega)]
 generalize (y / 4 &&& 3689348814741910323)+(y &&& 3689348814741910323)=z at *;simp only [Nat.reducePow] at l2 l3;have e3:o3 z=((z / 16+z &&& 1085102592571150095):Nat):=by unfold o3;rw [show (z:Int) / 16+z=((z / 16+z:Nat):Int) by omega,rC _ ay,show (1085102592571150095:Int)=((1085102592571150095:Nat):Int) by rfl,u64_and_nat _ _ ay ay]
 generalize (z / 16+z &&& 1085102592571150095)=u at *;have e4:o4 u=(u+u / 256:Nat):=by unfold o4;rw [show (u:Int)+u / 256=((u+u / 256:Nat):Int) by omega,rC _ ay]
 generalize hv:u+u / 256=v at *;have e5:o5 v=(v+v / 65536:Nat):=by unfold o5;rw [show (v:Int)+v / 65536=((v+v / 65536:Nat):Int) by omega,rC _ ay]
 generalize hq:v+v / 65536=q at *;have e6:o6 q=(q+q / 4294967296:Nat):=by unfold o6;rw [show (q:Int)+q / 4294967296=((q+q / 4294967296:Nat):Int) by omega,rC _ ay]
 unfold ones;rw [e1,e2,e3,e4,e5,e6,i64_and127];have:wrap64 ((q+q / 4294967296:Nat):Int)=((q+q / 4294967296:Nat):Int):=IntWalk.wrap64_in _ ⟨ay,ay⟩;rw [this];omega
theorem WW (x k:Nat) (hx:x<18446744073709551616):(bits BinOp.and IntKind.u64 ((x:Int) / 2 ^ k) 1==1)=x.testBit k:=by
 have e:(x:Int) / 2 ^ k=((x / 2 ^ k:Nat):Int):=by rw [Int.natCast_ediv,Int.natCast_pow];rfl
 have hk:x / 2 ^ k<18446744073709551616:=Nat.lt_of_le_of_lt (Nat.div_le_self _ _) hx;have h:=u64_and_nat (x / 2 ^ k) 1 hk ay;rw [e,show (1:Int)=((1:Nat):Int) from rfl,h,Nat.and_one_is_mod,Nat.testBit_eq_decide_div_mod_eq];generalize x / 2 ^ k % 2=y;by_cases hy:y=1;{subst hy;rfl};{simp [hy];omega}
theorem WX (x k:Nat) (hx:x<18446744073709551616):x % 2 ^ k<18446744073709551616:=Nat.lt_of_le_of_lt (Nat.mod_le _ _) hx
theorem WY (n k:Nat):∀ x,k≤n→pop n (x % 2 ^ k)=pop k x:=by
 induction n generalizing k with
 | zero=>intro x h;obtain rfl:k=0:=ay;rfl
 | succ n ih=>
  intro x h;cases k with
  | zero=>simp [pop,WE,Nat.mod_one]
  | succ k=>simp only [pop];have e1:x % 2 ^ (k+1) % 2=x % 2:=(by rw [Nat.pow_succ,Nat.mod_mul_left_mod]);have e2:x % 2 ^ (k+1) / 2=x / 2 % 2 ^ k:=(by rw [Nat.pow_succ,Nat.mod_mul_left_div_self]);rw [e1,e2,ih k _ ay]
theorem WZ (x k:Nat) (hx:x<18446744073709551616) (hk:k<64) :
  bits BinOp.and IntKind.u64 (x:Int) (IntKind.u64.wrap (IntKind.u64.wrap (2 ^ k)-1))=((x % 2 ^ k:Nat):Int)∧pop 64 (x % 2 ^ k)=pop k x:=by
 have h64:2 ^ k<18446744073709551616:=by have h:=Nat.pow_lt_pow_right (a:=2) ay hk;simpa using h
 have hp:=Nat.two_pow_pos k;refine ⟨?_,WY 64 k x ay⟩;rw [show ((2:Int) ^ k)=((2 ^ k:Nat):Int) from (Int.natCast_pow 2 k).symm,rC _ h64,show ((2 ^ k:Nat):Int)-1=((2 ^ k-1:Nat):Int) by omega,rC _ ay,u64_and_nat _ _ hx ay,Nat.and_two_pow_sub_one_eq_mod]
def run (a b n:Nat):List Bool:=(List.range n).map fun t=>decide (a≤t∧t<a+b)
end Go.Proofs.YtockbaekcbeenaaGreatDoor.Bm
namespace Go.Proofs.YtockbaekcbeenaaGreatDoor.Wv
open Go Go.RowKit
open Go.Proofs.YtockbaekcbeenaaGreatDoor.Bm (cnt)
def fK (l:List Nat) (d:Nat):List Bool:=l.map fun n=>n.testBit d
def part (l:List Nat) (d:Nat):List Nat:=l.filter (fun n=>!n.testBit d)++l.filter (fun n=>n.testBit d)
def zeros (l:List Nat) (d:Nat):Nat:=l.length-cnt (fK l d) l.length
def down (l:List Nat) (d i:Nat) (one:Bool):Nat:=if one then zeros l d+cnt (fK l d) i else i-cnt (fK l d) i
def seg (l:List Nat) (a b:Nat):List Nat:=(l.take b).drop a
theorem Dv (l:List Nat) (d:Nat):(part l d).length=l.length:=by
 unfold part;rw [List.length_append,←List.countP_eq_length_filter,←List.countP_eq_length_filter];have h:=List.length_eq_countP_add_countP (fun n:Nat=>n.testBit d) (l:=l);have e:List.countP (fun n:Nat=>!n.testBit d) l=List.countP (fun a:Nat=>decide ¬a.testBit d=true) l:=by congr 1;funext a;cases a.testBit d <;> rfl
 omega
theorem zW (l:List Nat) (d i:Nat):cnt (fK l d) i=((l.take i).filter fun n=>n.testBit d).length:=by unfold cnt fK;rw [←List.map_take,List.count_eq_countP,List.countP_map,←List.countP_eq_length_filter];congr 1;funext a;simp [Function.comp]
theorem zX (l:List Nat) (d:Nat):(l.filter fun n=>n.testBit d).length+(l.filter fun n=>!n.testBit d).length=l.length:=by have:=Dv l d;unfold part at this;rw [List.length_append] at this;omega
theorem zY (l:List Nat) (d i:Nat) (h:i≤l.length):down l d i false=((l.take i).filter fun n=>!n.testBit d).length:=by
 have e:down l d i false=i-cnt (fK l d) i:=by simp [down]
 have:=zX (l.take i) d;rw [e,zW];rw [List.length_take,Nat.min_eq_left h] at this;omega
theorem Nu (l:List Nat) (d:Nat):zeros l d=(l.filter fun n=>!n.testBit d).length:=by have:=zX l d;unfold zeros;rw [zW,List.take_length];omega
theorem W9 (p:Nat→Bool) (l:List Nat) (i:Nat):(l.filter p).drop ((l.take i).filter p).length=(l.drop i).filter p:=by
 conv=>lhs;rw [←List.take_append_drop i l,List.filter_append]
 rw [List.take_append_drop];exact List.drop_left
theorem W_ (p:Nat→Bool) (l:List Nat) (i:Nat):(l.filter p).take ((l.take i).filter p).length=(l.take i).filter p:=by
 conv=>lhs;rw [←List.take_append_drop i l,List.filter_append]
 rw [List.take_append_drop];exact List.take_left
theorem Nv (p:Nat→Bool) (l:List Nat) (a b:Nat) (h:a≤b) :
  seg (l.filter p) ((l.take a).filter p).length ((l.take b).filter p).length=(seg l a b).filter p:=by
 unfold seg;rw [W_];have:((l.take a).filter p)=(((l.take b).take a).filter p):=by rw [List.take_take,Nat.min_eq_left h]
 rw [this,W9]
theorem Xa (x y:List Nat) (a b:Nat) (hb:b≤x.length):seg (x++y) a b=seg x a b:=by unfold seg;rw [List.take_append_of_le_length hb]
theorem Xb (x y:List Nat) (a b:Nat):seg (x++y) (x.length+a) (x.length+b)=seg y a b:=by unfold seg;rw [List.take_length_add_append,List.drop_length_add_append]
theorem Dw (p:Nat→Bool) (l:List Nat) (i:Nat):((l.take i).filter p).length≤(l.filter p).length:=by
 conv=>rhs;rw [←List.take_append_drop i l,List.filter_append,List.length_append]
 exact Nat.le_add_right _ _
theorem Nw (l:List Nat) (d a b:Nat) (one:Bool) (h:a≤b) (hb:b≤l.length) :
  seg (part l d) (down l d a one) (down l d b one)=(seg l a b).filter fun n=>n.testBit d==one:=by
 cases one with
 | false=>rw [zY l d a ay,zY l d b hb];unfold part;rw [Xa _ _ _ _ (Dw _ _ _),Nv _ _ _ _ h];congr 1;funext n;cases n.testBit d <;> rfl
 | true=>
  have e:∀ i,down l d i true=(l.filter fun n=>!n.testBit d).length+((l.take i).filter fun n=>n.testBit d).length:=by intro i;simp only [down,if_pos,Nu,zW]
  rw [e,e];unfold part;rw [Xb,Nv _ _ _ _ h];congr 1;funext n;cases n.testBit d <;> rfl
theorem seg_length (l:List Nat) (a b:Nat) (hb:b≤l.length):(seg l a b).length=b-a:=by unfold seg;rw [List.length_drop,List.length_take,Nat.min_eq_left hb]
theorem Dx (l:List Nat) (d i:Nat) (one:Bool) (h:i≤l.length):down l d i one≤l.length:=by
 cases one with
 | false=>rw [zY l d i h];have:=Dw (fun n=>!n.testBit d) l i;have:=zX l d;omega
 | true=>
  have e:down l d i true=zeros l d+cnt (fK l d) i:=by simp [down]
  rw [e,Nu,zW];have:=Dw (fun n=>n.testBit d) l i;have:=zX l d;omega
theorem Ny (l:List Nat) (d a b:Nat) (one:Bool) (h:a≤b) (hb:b≤l.length):down l d a one≤down l d b one:=by
 have m:∀ p:Nat→Bool,((l.take a).filter p).length≤((l.take b).filter p).length:=by intro p;have:=Dw p (l.take b) a;rwa [List.take_take,Nat.min_eq_left h] at this
 cases one with
 | false=>rw [zY l d a ay,zY l d b hb];exact m _
 | true=>simp only [down,if_pos,zW];have:=m (fun n=>n.testBit d);omega
theorem Xc (l:List Nat) (d a b:Nat) (one:Bool) (h:a≤b) (hb:b≤l.length) :
  down l d b one-down l d a one=((seg l a b).filter fun n=>n.testBit d==one).length:=by rw [←Nw l d a b one h hb,seg_length _ _ _ (by rw [Dv];exact Dx l d b one hb)]
def low (s:List Nat) (d v:Nat):Nat:=s.countP fun n=>n % 2 ^ d<v % 2 ^ d
theorem mod_succ (n d:Nat):n % 2 ^ (d+1)=2 ^ d*(if n.testBit d then 1 else 0)+n % 2 ^ d:=by rw [Nat.mod_pow_succ,Nat.add_comm];congr 2;rw [Nat.testBit_eq_decide_div_mod_eq];have:=Nat.mod_two_eq_zero_or_one (n / 2 ^ d);rcases this with h | h <;> simp [h]
theorem Xd (s:List Nat) (v:Nat):low s 0 v=0:=by unfold low;rw [List.countP_eq_zero];intro a _;simp [Nat.mod_one]
theorem Xe (s:List Nat) (d v:Nat):low s (d+1) v =
  (if v.testBit d then (s.filter fun n=>n.testBit d==false).length else 0)+low (s.filter fun n=>n.testBit d==v.testBit d) d v:=by
 unfold low;have hv:=mod_succ v d;have h2:v % 2 ^ d<2 ^ d:=Nat.mod_lt _ (Nat.two_pow_pos d);induction s with
 | nil=>simp
 | cons a s ih=>
  have ha:=mod_succ a d;have h1:a % 2 ^ d<2 ^ d:=Nat.mod_lt _ (Nat.two_pow_pos d);cases hb:v.testBit d <;> cases hc:a.testBit d <;>
   simp only [hb,hc,if_pos,if_neg,List.filter_cons,List.countP_cons,List.length_cons,beq_self_eq_true,Bool.false_eq_true,Nat.mul_one,Nat.mul_zero,reduceCtorEq,if_false,if_true,beq_iff_eq,Nat.zero_add] at ih ha hv ⊢ <;>
   rw [ih] <;> (repeat' split) <;> simp_all <;> omega
theorem Xf (s:List Nat) (d:Nat):(s.filter fun n=>n.testBit d==false).length+(s.filter fun n=>n.testBit d==true).length=s.length:=by
 have:=zX s d;have e1:(s.filter fun n=>n.testBit d==false)=(s.filter fun n=>!n.testBit d):=by congr 1;funext n;cases n.testBit d <;> rfl
 have e2:(s.filter fun n=>n.testBit d==true)=(s.filter fun n=>n.testBit d):=by congr 1;funext n;cases n.testBit d <;> rfl
 rw [e1,e2];omega
def rows (l:List Nat) (w:Nat):Nat→List Nat
 | 0=>l
 | k+1=>part (rows l w k) (w-1-k)
theorem qz (l:List Nat) (w k:Nat):(rows l w k).length=l.length:=by
 induction k with
 | zero=>rfl
 | succ k ih=>unfold rows;rw [Dv,ih]
theorem Xg (l:List Nat) (d x:Nat):x∈part l d↔x∈l:=by unfold part;rw [List.mem_append,List.mem_filter,List.mem_filter];cases h:x.testBit d <;> simp
theorem Xh (l:List Nat) (w k x:Nat):x∈rows l w k↔x∈l:=by
 induction k with
 | zero=>rfl
 | succ k ih=>unfold rows;rw [Xg,ih]
def at' (l:List Nat) (w v:Nat) (i:Nat):Nat→Nat
 | 0=>i
 | k+1=>down (rows l w k) (w-1-k) (at' l w v i k) (v.testBit (w-1-k))
theorem Dy (l:List Nat) (w v i k:Nat) (h:i≤l.length):at' l w v i k≤l.length:=by
 induction k with
 | zero=>exact h
 | succ k ih=>unfold at';have:=Dx (rows l w k) (w-1-k) (at' l w v i k) (v.testBit (w-1-k)) (by rw [qz];exact ih);rwa [qz] at this
theorem Nz (l:List Nat) (w v a b k:Nat) (h:a≤b) (hb:b≤l.length):at' l w v a k≤at' l w v b k:=by
 induction k with
 | zero=>exact h
 | succ k ih=>unfold at';exact Ny _ _ _ _ _ ih (by rw [qz];exact Dy l w v b k hb)
def with' (s:List Nat) (w v k:Nat):List Nat:=s.filter fun n=>(List.range k).all fun j=>n.testBit (w-1-j)==v.testBit (w-1-j)
theorem NA (s:List Nat) (w v k:Nat):with' s w v (k+1)=(with' s w v k).filter fun n=>n.testBit (w-1-k)==v.testBit (w-1-k):=by unfold with';rw [List.filter_filter];congr 1;funext n;rw [List.range_succ,List.all_append];simp [Bool.and_comm]
theorem ND (l:List Nat) (w v a b k:Nat) (h:a≤b) (hb:b≤l.length) :
  seg (rows l w k) (at' l w v a k) (at' l w v b k)=with' (seg l a b) w v k:=by
 induction k with
 | zero=>simp only [rows,at',with',List.range_zero,List.all_nil];exact (List.filter_eq_self.2 aH).symm
 | succ k ih=>unfold rows at';rw [Nw _ _ _ _ _ (Nz l w v a b k h hb) (by rw [qz];exact Dy l w v b k hb),ih,NA]
theorem Xi (s:List Nat) (w v:Nat) (hs:∀ x∈s,x<2 ^ w) (hv:v<2 ^ w):low s w v=s.countP fun n=>n<v:=by unfold low;apply List.countP_congr;intro a ha;rw [Nat.mod_eq_of_lt (hs a ha),Nat.mod_eq_of_lt hv]
def mI (s:List Nat) (lo hi:Int):Nat:=s.countP fun n:Nat=>decide (lo≤(n:Int)) && decide ((n:Int)≤hi)
theorem Xj (s:List Nat) (lo hi:Int):mI s lo hi=(s.countP fun n:Nat=>decide ((n:Int)<hi+1))-(s.countP fun n:Nat=>decide ((n:Int)<lo)):=by
 unfold mI;by_cases h:lo≤hi+1
 · have:(s.countP fun n:Nat=>decide (lo≤(n:Int)) && decide ((n:Int)≤hi))+(s.countP fun n:Nat=>decide ((n:Int)<lo))=(s.countP fun n:Nat=>decide ((n:Int)<hi+1)):=by
    induction s with
    | nil=>rfl
    | cons a s ih=>simp only [List.countP_cons,Bool.and_eq_true,decide_eq_true_eq] at ih ⊢;(repeat' split) <;> omega
   omega
 {have h0:(s.countP fun n:Nat=>decide (lo≤(n:Int)) && decide ((n:Int)≤hi))=0:=(by rw [List.countP_eq_zero];intro a _;simp;omega);have:(s.countP fun n:Nat=>decide ((n:Int)<hi+1))≤(s.countP fun n:Nat=>decide ((n:Int)<lo)):=(by apply List.countP_mono_left;intro a _ ha;simp at ha ⊢;omega);omega}
def jO (s:List Nat) (v:Int):Nat:=s.countP fun n:Nat=>decide ((n:Int)<v)
theorem Xk (s:List Nat) (v:Int) (h:v≤0):jO s v=0:=by unfold jO;rw [List.countP_eq_zero];intro a _;simp;omega
theorem Xl (s:List Nat) (w:Nat) (v:Int) (hs:∀ x∈s,x<2 ^ w) (h:((2 ^ w:Nat):Int)≤v):jO s v=s.length:=by unfold jO;rw [List.countP_eq_length];intro a ha;have:=hs a ha;simp;omega
theorem Xm (s:List Nat) (v:Nat):jO s v=s.countP fun n=>n<v:=by unfold jO;congr 1;funext n;simp
theorem NG (s:List Nat) (v:Int):jO s v≤s.length:=List.countP_le_length
def kN (s:List Nat) (v:Int):Int:=s.foldl (fun (best:Int) (x:Nat)=>if v≤(x:Int)∧(best<0∨(x:Int)<best) then (x:Int) else best) (-1)
def ko (n:Nat) (b:Int):Nat:=(min b n).toNat
def oh (n:Nat) (a b:Int):Nat:=(min a (ko n b)).toNat
theorem NH (n:Nat) (b:Int):ko n b≤n:=by unfold ko;omega
theorem Xn (n:Nat) (a b:Int):oh n a b≤ko n b:=by unfold oh;omega
def rng (l:List Nat) (a b:Int):List Nat:=seg l (oh l.length a b) (ko l.length b)
theorem Xo (l:List Nat) (a b:Int):(rng l a b).length=ko l.length b-oh l.length a b:=seg_length _ _ _ (NH _ _)
theorem Xp {l:List Nat} {a b:Int} {x:Nat} (h:x∈rng l a b):x∈l:=List.mem_of_mem_take (List.mem_of_mem_drop h)
theorem Xq (l:List Nat) (w i k:Nat) (hi:i<l.length):at' l w (l.getD i 0) i k<l.length∧(rows l w k).getD (at' l w (l.getD i 0) i k) 0=l.getD i 0:=by
 have hs:seg l i (i+1)=[l.getD i 0]:=by unfold seg;rw [List.take_add_one,List.drop_append,List.drop_of_length_le (by simp;omega),List.getD,List.getElem?_eq_getElem hi];simp [Nat.min_eq_left (Nat.le_of_lt hi)]
 generalize l.getD i 0=v at hs ⊢;have h:=ND l w v i (i+1) k ay ay;rw [hs] at h;have hw:with' [v] w v k=[v]:=by unfold with';simp
 rw [hw] at h;have hb:=Dy l w v (i+1) k ay;have hlen:=congrArg List.length h;rw [seg_length _ _ _ (by rw [qz];exact hb),List.length_singleton] at hlen;refine ⟨ay,?_⟩;have h0:=congrArg (fun x:List Nat=>x[0]?) h;simp only [seg,List.getElem?_drop,Nat.add_zero] at h0;rw [List.getElem?_take_of_lt ay] at h0;rw [List.getD,h0];rfl
theorem NI (l:List Nat) (d i:Nat) (hi:i<l.length):(fK l d).getD i false=(l.getD i 0).testBit d:=by simp [fK,List.getD,List.getElem?_map,List.getElem?_eq_getElem hi]
theorem Xr (v d:Nat):v / 2 ^ d=2*(v / 2 ^ (d+1))+(if v.testBit d then 1 else 0):=by rw [Nat.pow_succ,←Nat.div_div_eq_div_mul,Nat.testBit_eq_decide_div_mod_eq];have:=Nat.mod_two_eq_zero_or_one (v / 2 ^ d);have:=Nat.div_add_mod (v / 2 ^ d) 2;rcases Nat.mod_two_eq_zero_or_one (v / 2 ^ d) with h | h <;> simp [h] <;> omega
theorem Xt (s:List Nat) (w v:Nat):with' s w v 0=s:=by unfold with';exact List.filter_eq_self.2 aH
theorem NJ (s:List Nat) (lo hi:Int):mI s lo hi≤s.length:=List.countP_le_length
theorem Xu (l:List Nat) (i:Int):rng l 0 i=l.take (ko l.length i):=by
 unfold rng seg;have:oh l.length 0 i=0:=by unfold oh;omega
 rw [this];rfl
end Go.Proofs.YtockbaekcbeenaaGreatDoor.Wv
namespace Go.Proofs.YtockbaekcbeenaaGreatDoor.Rg
abbrev T:=Int×Int×Int
def at' (t:T) (c:Nat):Int:=if c=0 then t.1 else if c=1 then t.2.1 else t.2.2
def nx (c:Nat):Nat:=(c+1) % 3
def pv (c:Nat):Nat:=(c+2) % 3
def jd (c:Nat) (t:T):T:=(at' t c,at' t (nx c),at' t (pv c))
def cmp (a b:T):Int:=if a.1<b.1 then -1 else if b.1<a.1 then 1 else if a.2.1<b.2.1 then -1 else if b.2.1<a.2.1 then 1 else if a.2.2<b.2.2 then -1 else if b.2.2<a.2.2 then 1 else 0
def lt (a b:T):Prop:=a.1<b.1∨a.1=b.1∧(a.2.1<b.2.1∨a.2.1=b.2.1∧a.2.2<b.2.2)
instance (a b:T):Decidable (lt a b):=by unfold lt;infer_instance
theorem j_ (a b:T):cmp a b<0↔lt a b:=by unfold cmp lt;(repeat' split) <;> omega
theorem lt_irrefl (a:T):¬ lt a a:=by unfold lt;omega
theorem lt_trans {a b c:T} (h:lt a b) (k:lt b c):lt a c:=by unfold lt at *;omega
theorem lt_asymm {a b:T} (h:lt a b):¬ lt b a:=by unfold lt at *;omega
theorem ext {a b:T} (h1:a.1=b.1) (h2:a.2.1=b.2.1) (h3:a.2.2=b.2.2):a=b:=Prod.ext h1 (Prod.ext h2 h3)
theorem NK {a b:T} (h:¬ lt a b) (k:¬ lt b a):a=b:=by unfold lt at *;exact ext ay ay ay
theorem c3 {c:Nat} (h:c<3):c=0∨c=1∨c=2:=ay
theorem NP {c:Nat} (hc:c<3) {a b:T} (h:jd c a=jd c b):a=b:=by unfold jd at h;simp only [Prod.mk.injEq] at h;rcases c3 hc with rfl | rfl | rfl <;> simp [at',nx,pv] at h <;> exact ext ay ay ay
def iQ (c:Nat) (a b:T):Prop:=lt (jd c a) (jd c b)
instance (c:Nat) (a b:T):Decidable (iQ c a b):=by unfold iQ;infer_instance
def cf (c:Nat) (a b:T):Int:=cmp (jd c a) (jd c b)
def O (l:List T) (c:Nat):List T:=l.mergeSort fun x y=>!decide (cf c y x<0)
theorem jP (l:List T) (c:Nat):(O l c).Perm l:=List.mergeSort_perm _ _
theorem nE (l:List T) (c:Nat):(O l c).length=l.length:=(jP l c).length_eq
theorem zZ (l:List T) (c:Nat) (hc:c<3) (hn:l.Nodup):(O l c).Pairwise (iQ c):=by
 have h1:(O l c).Pairwise fun x y=>(!decide (cf c y x<0))=true:=List.pairwise_mergeSort (fun a b d h k=>by
  simp only [Bool.not_eq_true',decide_eq_false_iff_not,cf,j_] at h k ⊢;unfold lt at *;omega) (fun a b=>by
  simp only [Bool.or_eq_true,Bool.not_eq_true',decide_eq_false_iff_not,cf,j_];by_cases h:lt (jd c b) (jd c a);{exact Or.inr (lt_asymm h)}
  · exact Or.inl h) l
 have h2:(O l c).Nodup:=(jP l c).symm.nodup hn;refine (h1.and h2).imp fun {a b} ⟨h,hne⟩=>?_;simp only [Bool.not_eq_true',decide_eq_false_iff_not,cf,j_] at h;by_cases hlt:lt (jd c a) (jd c b);{exact hlt};{exact absurd (NP hc (NK hlt h)) hne}
theorem NQ {R:T→T→Prop} {L:List T} (hs:L.Pairwise R) {P:T→Bool} (hP:∀ s t,R s t→P t=true→P s=true):L.take (L.countP P)=L.filter P:=by
 induction L with
 | nil=>rfl
 | cons x L ih=>rw [List.pairwise_cons] at hs;cases hx:P x;{have h0:∀ y∈L,P y=false:=fun y hy=>(by cases hy':P y;{rfl};{have:=hP x y (hs.1 y hy) hy';rw [hx] at this;cases this});have h1:L.countP P=0:=(by rw [List.countP_eq_zero];intro y hy;rw [h0 y hy];decide);have h2:L.filter P=[]:=(by rw [List.filter_eq_nil_iff];intro y hy;rw [h0 y hy];decide);rw [List.countP_cons,h1,List.filter_cons,h2];simp [hx]};{rw [List.countP_cons,List.filter_cons];simp [hx,ih hs.2]}
theorem Xv {R:T→T→Prop} {L:List T} (hs:L.Pairwise R) {P:T→Bool} (hP:∀ s t,R s t→P t=true→P s=true):L.drop (L.countP P)=L.filter fun t=>!P t:=by
 induction L with
 | nil=>rfl
 | cons x L ih=>rw [List.pairwise_cons] at hs;cases hx:P x;{have h0:∀ y∈L,P y=false:=fun y hy=>(by cases hy':P y;{rfl};{have:=hP x y (hs.1 y hy) hy';rw [hx] at this;cases this});have h1:L.countP P=0:=(by rw [List.countP_eq_zero];intro y hy;rw [h0 y hy];decide);have h2:L.filter (fun t=>!P t)=L:=(by rw [List.filter_eq_self];intro y hy;rw [h0 y hy];decide);rw [List.countP_cons,h1,List.filter_cons,h2];simp [hx]};{rw [List.countP_cons,List.filter_cons];simp [hx,ih hs.2]}
theorem idx {R:T→T→Prop} [∀ a b,Decidable (R a b)] {L:List T} (hs:L.Pairwise R) (hi:∀ a,¬ R a a) (ha:∀ a b,R a b→¬ R b a):∀ (i:Nat) (h:i<L.length),L.countP (fun s=>decide (R s L[i]))=i:=by
 induction L with
 | nil=>intro i h;exact absurd h (Nat.not_lt_zero _)
 | cons x L ih=>
  intro i h;rw [List.pairwise_cons] at hs;cases i with
  | zero=>rw [List.countP_eq_zero];intro y hy;simp only [List.getElem_cons_zero,decide_eq_true_eq];rcases List.mem_cons.1 hy with rfl | hy;{exact hi _};{exact ha _ _ (hs.1 y hy)}
  | succ i=>simp only [List.getElem_cons_succ];rw [List.countP_cons,ih hs.2 i (by simpa using h),if_pos (by simpa using hs.1 _ (List.getElem_mem _))]
theorem Xw {l:List T} {c:Nat} (hc:c<3) (hn:l.Nodup) {t:T} (ht:t∈l):l.countP (fun s=>decide (iQ c s t))<l.length∧(O l c)[l.countP (fun s=>decide (iQ c s t))]?=some t:=by obtain ⟨i,hi,e⟩:=List.getElem_of_mem ((jP l c).mem_iff.2 ht);have h:=idx (zZ l c hc hn) (fun a=>lt_irrefl _) (fun a b h=>lt_asymm h) i hi;rw [e,(jP l c).countP_eq] at h;rw [h];exact ⟨by rw [←nE l c];exact hi,by rw [List.getElem?_eq_getElem hi,e]⟩
theorem Xx {l:List T} {c i:Nat} (hc:c<3) (hn:l.Nodup) (hi:i<l.length) {t:T} (ht:(O l c)[i]?=some t):l.countP (fun s=>decide (iQ c s t))=i∧t∈l:=by
 have hi':i<(O l c).length:=by rw [nE];exact hi
 rw [List.getElem?_eq_getElem hi'] at ht;cases ht;have h:=idx (zZ l c hc hn) (fun a=>lt_irrefl _) (fun a b h=>lt_asymm h) i hi';rw [(jP l c).countP_eq] at h;exact ⟨h,(jP l c).mem_iff.1 (List.getElem_mem _)⟩
def Lower (c:Nat) (P:T→Bool):Prop:=∀ s t,iQ c s t→P t=true→P s=true
def iR (c:Nat) (v:Int) (P:T→Bool) (t:T):Bool:=decide (at' t (pv c)<v) || (decide (at' t (pv c)=v) && P t)
theorem o9 (c:Nat):pv c<3:=Nat.mod_lt _ aL
theorem Dz {c:Nat} (hc:c<3) {P:T→Bool} (v:Int) (h:Lower c P):Lower (pv c) (iR c v P):=by
 intro s t hst ht;unfold iR at *;simp only [Bool.or_eq_true,Bool.and_eq_true,decide_eq_true_eq] at ht ⊢;have key:at' s (pv c)<at' t (pv c)∨at' s (pv c)=at' t (pv c)∧iQ c s t:=by unfold iQ lt jd at *;rcases c3 hc with rfl | rfl | rfl <;> simp [at',nx,pv] at hst ⊢ <;> omega
 rcases key with k | ⟨k,k2⟩;{rcases ht with ht | ⟨ht,_⟩ <;> exact Or.inl ay};{rcases ht with ht | ⟨ht,hp⟩;{exact Or.inl ay};{exact Or.inr ⟨ay,h s t k2 hp⟩}}
theorem Xy {c:Nat} (t:T):Lower c fun s=>decide (iQ c s t):=by intro a b h k;simp only [decide_eq_true_eq] at *;exact lt_trans h k
theorem Xz {c:Nat} (hc:c<3) (s t:T):iR c (at' t (pv c)) (fun s=>decide (iQ c s t)) s=decide (iQ (pv c) s t):=by unfold iR;rw [←Bool.decide_and,←Bool.decide_or,decide_eq_decide];unfold iQ lt jd at *;rcases c3 hc with rfl | rfl | rfl <;> simp [at',nx,pv] <;> omega
def A (l:List T) (c:Nat):List Nat:=(O l c).map fun t=>(at' t (pv c)).toNat
theorem xU (l:List T) (c:Nat):(A l c).length=l.length:=by rw [A,List.length_map,nE]
def Ok (t:T):Prop:=∀ c,c<3→1≤at' t c∧at' t c≤1000
theorem XA {l:List T} {c:Nat} (h:∀ t∈l,Ok t):∀ x∈A l c,1≤x∧x≤1000:=by intro x hx;unfold A at hx;rw [List.mem_map] at hx;obtain ⟨t,ht,rfl⟩:=hx;have:=h t ((jP l c).mem_iff.1 ht) (pv c) (o9 c);omega
theorem NS (L:List T) (c:Nat) (h:∀ t∈L,Ok t) (q:Int→Bool):(L.map fun t=>(at' t (pv c)).toNat).countP (fun x:Nat=>q x)=L.countP fun t=>q (at' t (pv c)):=by rw [List.countP_map];apply List.countP_congr;intro t ht;have:=h t ht (pv c) (o9 c);simp only [Function.comp];rw [Int.toNat_of_nonneg ay]
theorem step_eq {l:List T} {c:Nat} (hc:c<3) (hn:l.Nodup) (h:∀ t∈l,Ok t) {P:T→Bool} (hP:Lower c P) (v:Int) :
  (l.length:Int)-((A l c).countP fun n:Nat=>decide (v≤(n:Int)) && decide ((n:Int)≤1000):Nat)+(((A l c).take (l.countP P)).countP fun n:Nat=>decide (v≤(n:Int)) && decide ((n:Int)≤v):Nat)=(l.countP (iR c v P):Nat):=by
 have hO:∀ t∈O l c,Ok t:=fun t ht=>h t ((jP l c).mem_iff.1 ht);have e1:(A l c).countP (fun n:Nat=>decide (v≤(n:Int)) && decide ((n:Int)≤1000))=l.countP fun t=>decide (v≤at' t (pv c)):=by unfold A;rw [NS (O l c) c hO (fun n=>decide (v≤n) && decide (n≤1000)),(jP l c).countP_eq];apply List.countP_congr;intro t ht;have:=h t ht (pv c) (o9 c);simp;omega
 have e2:(A l c).take (l.countP P)=((O l c).filter P).map fun t=>(at' t (pv c)).toNat:=by unfold A;rw [←List.map_take,←(jP l c).countP_eq,NQ (zZ l c hc hn) hP]
 have e3:((A l c).take (l.countP P)).countP (fun n:Nat=>decide (v≤(n:Int)) && decide ((n:Int)≤v))=l.countP fun t=>decide (at' t (pv c)=v) && P t:=by rw [e2,NS _ c (fun t ht=>hO t (List.mem_filter.1 ht).1) (fun n=>decide (v≤n) && decide (n≤v)),List.countP_filter,(jP l c).countP_eq];apply List.countP_congr;intro t ht;simp only [Bool.and_eq_true,decide_eq_true_eq];constructor;{rintro ⟨⟨h1,h2⟩,h3⟩;exact ⟨ay,h3⟩};{rintro ⟨h1,h3⟩;exact ⟨⟨ay,ay⟩,h3⟩}
 rw [e1,e3];clear e1 e2 e3 hO hP h hn;induction l with
 | nil=>rfl
 | cons t l ih=>simp only [List.countP_cons,List.length_cons,iR,Bool.or_eq_true,Bool.and_eq_true,decide_eq_true_eq] at ih ⊢;generalize at' t (pv c)=x;generalize P t=b;rcases Int.lt_trichotomy x v with hx | hx | hx;{have a1:¬ v≤x:=ay;have a2:¬ x=v:=ay;cases b <;> simp [hx,a1,a2] <;> omega};{subst hx;cases b <;> simp <;> omega};{have a1:v≤x:=ay;have a2:¬ x=v:=ay;have a3:¬ x<v:=ay;cases b <;> simp [a1,a2,a3] <;> omega}
def mt (p t:T):Bool:=(decide (p.1=0) || decide (p.1=t.1)) && (decide (p.2.1=0) || decide (p.2.1=t.2.1)) && (decide (p.2.2=0) || decide (p.2.2=t.2.2))
def start (p:T):Nat:=if p.1=0∧p.2.2≠0 then 0 else if p.2.1=0∧p.1≠0 then 1 else if p.2.2=0∧p.2.1≠0 then 2 else 0
def way (p:T):Nat→Nat→(T→Bool)→(T→Bool)→Nat×(T→Bool)×(T→Bool)
 | 0,c,P,Q=>(c,P,Q)
 | k+1,c,P,Q=>if at' p (pv c)=0 then (c,P,Q) else way p k (pv c) (iR c (at' p (pv c)) P) (iR c (at' p (pv c)) Q)
def dJ (p:T):Nat×(T→Bool)×(T→Bool):=way p 3 (start p) (fun _=>false) (fun _=>true)
theorem start_lt (p:T):start p<3:=by unfold start;(repeat' split) <;> omega
theorem XB (p:T):∀ (k c:Nat) (P Q:T→Bool),c<3→Lower c P→Lower c Q→(∀ t,P t=true→Q t=true) →
  (way p k c P Q).1<3∧Lower (way p k c P Q).1 (way p k c P Q).2.1∧Lower (way p k c P Q).1 (way p k c P Q).2.2∧∀ t,(way p k c P Q).2.1 t=true→(way p k c P Q).2.2 t=true:=by
 intro k;induction k with
 | zero=>intro c P Q hc h1 h2 h3;exact ⟨hc,h1,h2,h3⟩
 | succ k ih=>intro c P Q hc h1 h2 h3;unfold way;split;{exact ⟨hc,h1,h2,h3⟩};{refine ih _ _ _ (o9 c) (Dz hc _ h1) (Dz hc _ h2) fun t ht=>?_;unfold iR at *;simp only [Bool.or_eq_true,Bool.and_eq_true,decide_eq_true_eq] at ht ⊢;rcases ht with ht | ⟨a,b⟩;{exact Or.inl ht};{exact Or.inr ⟨a,h3 t b⟩}}
theorem H_ (p:T):(dJ p).1<3∧Lower (dJ p).1 (dJ p).2.1∧Lower (dJ p).1 (dJ p).2.2∧∀ t,(dJ p).2.1 t=true→(dJ p).2.2 t=true:=
 XB p 3 (start p) _ _ (start_lt p) (fun _ _ _ h=>h) (fun _ _ _ h=>h) (fun _ _=>rfl)
theorem NT (p t:T):((dJ p).2.2 t && !(dJ p).2.1 t)=mt p t:=by
 obtain ⟨a,b,c⟩:=p;by_cases ha:a=0 <;> by_cases hb:b=0 <;> by_cases hc:c=0 <;>
  simp [dJ,way,start,iR,at',pv,mt,ha,hb,hc] <;> (try (rw [Bool.eq_iff_iff];simp;omega))
theorem XD {l:List T} (hn:l.Nodup) (p:T):((O l (dJ p).1).take (l.countP (dJ p).2.2)).drop (l.countP (dJ p).2.1)=(O l (dJ p).1).filter (mt p):=by
 obtain ⟨hc,hP,hQ,hPQ⟩:=H_ p;have hs:=zZ l _ hc hn;have e1:l.countP (dJ p).2.1=((O l (dJ p).1).filter (dJ p).2.2).countP (dJ p).2.1:=by rw [List.countP_filter,(jP l _).countP_eq];apply List.countP_congr;intro t _;simp only [Bool.and_eq_true];exact ⟨fun h=>⟨h,hPQ t h⟩,fun h=>h.1⟩
 rw [←(jP l (dJ p).1).countP_eq (dJ p).2.2,NQ hs hQ,e1,Xv (hs.filter _) hP,List.filter_filter];apply List.filter_congr;intro t _;rw [←NT p t,Bool.and_comm]
theorem count_eq (l:List T) (p:T):l.countP (dJ p).2.1+l.countP (mt p)=l.countP (dJ p).2.2:=by
 obtain ⟨_,_,_,hPQ⟩:=H_ p;have hm:=NT p;generalize (dJ p).2.1=P at *;generalize (dJ p).2.2=Q at *;induction l with
 | nil=>rfl
 | cons t l ih=>simp only [List.countP_cons];have h1:=hPQ t;have h2:=hm t;rw [←h2];cases hp:P t <;> cases hq:Q t <;> simp [hp,hq] at h1 ⊢ <;> omega
end Go.Proofs.YtockbaekcbeenaaGreatDoor.Rg
