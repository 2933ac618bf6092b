/-GRg2-/
import Derived.Test.YtjaebndajhppgaaGreatDoorMfHd1
import Derived.WalkKit
import Derived.Test.YtjaebndajhppgaaGreatDoorMfGB
import Derived.Test.YtjaebndajhppgaaGreatDoorMfGRg1
import Derived.Shelf.Spec.TrailingZeros
import Derived.Lib.BitFns
set_option linter.unusedVariables false
set_option maxRecDepth 100000
set_option linter.unusedSimpArgs false
set_option maxHeartbeats 1000000
namespace Go.Proofs.YtjaebndajhppgaaGreatDoor.Bn
open Go Go.RowKit
def val (f:Nat→Bool):Nat→Nat
 | 0=>0
 | n+1=>(if f 0 then 1 else 0)+2*val (fun j=>f (j+1)) n
theorem wz (n:Nat):∀ f:Nat→Bool,val f n<2 ^ n:=by
 induction n with
 | zero=>intro f;simp [val]
 | succ n ih=>intro f;simp only [val,Nat.pow_succ];have:=ih (fun j=>f (j+1));split <;> omega
theorem jc (n:Nat):∀ (f:Nat→Bool) (j:Nat),(val f n).testBit j=(decide (j<n) && f j):=by
 induction n with
 | zero=>intro f j;simp [val]
 | succ n ih=>
  intro f j;cases j with
  | zero=>simp only [val,Nat.testBit_zero];cases f 0 <;> simp
  | succ j=>rw [Nat.testBit_succ];have:val f (n+1) / 2=val (fun j=>f (j+1)) n:=(by simp only [val];split <;> omega);rw [this,ih];simp
theorem val_congr {n:Nat} {f g:Nat→Bool} (h:∀ j,j<n→f j=g j):val f n=val g n:=by apply Nat.eq_of_testBit_eq;intro j;rw [jc,jc];by_cases hj:j<n;{rw [h j hj]};{simp [hj]}
theorem val_inj {n:Nat} {f g:Nat→Bool} (h:val f n=val g n):∀ j,j<n→f j=g j:=by intro j hj;have:=congrArg (fun x=>Nat.testBit x j) h;simpa [jc,hj] using this
theorem OQ (n x:Nat) (h:x<2 ^ n):val (fun j=>x.testBit j) n=x:=by apply Nat.eq_of_testBit_eq;intro j;rw [jc];by_cases hj:j<n;{simp [hj]};{have:x.testBit j=false:=Nat.testBit_lt_two_pow (Nat.lt_of_lt_of_le h (Nat.pow_le_pow_right ak ak));simp [hj,this]}
def fJ (bit:Nat→Bool) (c k t:Nat):Nat:=val (fun j=>decide (c*t+j<k) && bit (c*t+j)) c
theorem ze (bit:Nat→Bool) (c k t:Nat):fJ bit c k t<2 ^ c:=wz _ _
theorem aaG (bit:Nat→Bool) (c t:Nat):fJ bit c 0 t=0:=by unfold fJ;rw [val_congr (g:=fun _=>false) (fun j _=>aI)];apply Nat.eq_of_testBit_eq;intro j;rw [jc];simp
theorem aaH (bit:Nat→Bool) {c k t:Nat} (hc:0<c) (h:t≠k / c):fJ bit c (k+1) t=fJ bit c k t:=by unfold fJ;refine val_congr fun j hj=>?_;have h1:c*t+j≠k:=fun he=>h (by rw [←he,Nat.mul_add_div hc,Nat.div_eq_of_lt hj];omega);congr 1;rw [decide_eq_decide];omega
theorem OT (bit:Nat→Bool) {c k:Nat} (hc:0<c):fJ bit c (k+1) (k / c)=fJ bit c k (k / c) ||| (if bit k then 2 ^ (k % c) else 0):=by apply Nat.eq_of_testBit_eq;intro j;have hk:=Nat.div_add_mod k c;have hm:=Nat.mod_lt k hc;unfold fJ;rw [Nat.testBit_or,jc,jc];by_cases hj:j<c;{by_cases he:j=k % c;{subst he;rw [hk];cases hb:bit k <;> simp [hj,Nat.testBit_two_pow]};{have h1:(if bit k then 2 ^ (k % c) else 0).testBit j=false:=(by split;{rw [Nat.testBit_two_pow];simp;omega};{simp});rw [h1,Bool.or_false];congr 2;rw [decide_eq_decide];omega}};{have h1:(if bit k then 2 ^ (k % c) else 0).testBit j=false:=(by split;{rw [Nat.testBit_two_pow];simp;omega};{simp});simp [hj,h1]}
def width (n:Nat):Nat:=if n=0 then 0 else n.log2+1
theorem width_le (n w:Nat):width n≤w↔n<2 ^ w:=by unfold width;split;{rename_i h;subst h;simp [Nat.two_pow_pos]};{rename_i h;rw [←Nat.log2_lt h];omega}
theorem GA (n:Nat) (h:0<n):width n=width (n / 2)+1:=by
 have key:∀ w,width n≤w↔width (n / 2)+1≤w:=by
  intro w;cases w with
  | zero=>rw [width_le];simp;omega
  | succ w=>rw [width_le,Nat.pow_succ];have:=width_le (n / 2) w;omega
 have h1:=(key (width n)).1 aF;have h2:=(key (width (n / 2)+1)).2 aF;omega
def gT (b:Bool):Nat:=if b then 1 else 0
theorem Dj (b:Bool):gT b<2:=by cases b <;> simp [gT]
theorem wC (a:Nat) (ha:a<9223372036854775808):(BitVec.ofInt 64 (a:Int)).toNat=a:=by rw [BitVec.ofInt_natCast,BitVec.toNat_ofNat];exact Nat.mod_eq_of_lt ak
theorem OU (a b:Nat) (ha:a<9223372036854775808) (hb:b<9223372036854775808):bits .and .i64 (a:Int) (b:Int)=((a &&& b:Nat):Int):=by have hx:a &&& b<2 ^ 63:=Nat.and_lt_two_pow _ ak;show IntKind.i64.wrap ((BitVec.ofInt 64 (a:Int) &&& BitVec.ofInt 64 (b:Int)).toNat:Int)=_;rw [BitVec.toNat_and,wC a ha,wC b hb,IntKind.wrap_i64];omega
theorem zh (a b:Nat) (ha:a<9223372036854775808) (hb:b<9223372036854775808):bits .or .i64 (a:Int) (b:Int)=((a ||| b:Nat):Int):=by have hx:a ||| b<2 ^ 63:=Nat.or_lt_two_pow ak ak;show IntKind.i64.wrap ((BitVec.ofInt 64 (a:Int) ||| BitVec.ofInt 64 (b:Int)).toNat:Int)=_;rw [BitVec.toNat_or,wC a ha,wC b hb,IntKind.wrap_i64];omega
theorem OV (x d:Nat):(x:Int) / 2 ^ d=((x / 2 ^ d:Nat):Int):=by rw [Int.natCast_ediv,Int.natCast_pow];rfl
theorem OW (x d:Nat):x / 2 ^ d &&& 1=if x.testBit d then 1 else 0:=by rw [Nat.and_one_is_mod,Nat.testBit_eq_decide_div_mod_eq];have hy:x / 2 ^ d % 2<2:=Nat.mod_lt _ ak;generalize x / 2 ^ d % 2=y at *;by_cases h:y=1;{simp [h]};{simp [h];omega}
theorem OX (x d:Nat) (h:x<9223372036854775808):bits BinOp.and IntKind.i64 ((x:Int) / 2 ^ d) 1=((gT (x.testBit d):Nat):Int):=by have hd:x / 2 ^ d<9223372036854775808:=Nat.lt_of_le_of_lt (Nat.div_le_self _ _) h;have:=OU (x / 2 ^ d) 1 hd ak;rw [OV,show (1:Int)=((1:Nat):Int) from rfl,this,OW];rfl
theorem OY (n:Nat) (h:n<256):IntKind.u8.wrap (n:Int)=n:=by rw [IntKind.wrap_u8'];omega
end Go.Proofs.YtjaebndajhppgaaGreatDoor.Bn
namespace Go.Proofs.YtjaebndajhppgaaGreatDoor.Pm
open Go Go.RowKit Go.Proofs.YtjaebndajhppgaaGreatDoor.Bn
def gU (l:List Int) (w k:Nat):Bool:=(l.getD (k / w) 0).toNat.testBit (k % w)
def size (n w:Nat):Nat:=(n*w+7) / 8
def byte (l:List Int) (w t:Nat):Nat:=fJ (gU l w) 8 (l.length*w) t
theorem aaI (l:List Int) (w t:Nat):byte l w t<256:=ze _ 8 _ _
def May (l:List Int) (w:Int):Prop:=0≤w∧w≤20∧l.length≤1000∧∀ i,i<l.length→0≤l.getD i 0∧(l.getD i 0).toNat<2 ^ w.toNat
theorem GD (l:List Int) (w i d:Nat) (hd:d<w):gU l w (i*w+d)=(l.getD i 0).toNat.testBit d:=by
 unfold gU;have h1:(i*w+d) / w=i:=by rw [Nat.mul_comm,Nat.mul_add_div ak,Nat.div_eq_of_lt hd];rfl
 have h2:(i*w+d) % w=d:=by rw [Nat.mul_comm,Nat.mul_add_mod,Nat.mod_eq_of_lt hd]
 rw [h1,h2]
theorem OZ (x d g k:Nat) (hx:x<9223372036854775808) (hg:g<256) (hk:k<8) :
  bits BinOp.or IntKind.u8 (g:Int) (bits BinOp.and IntKind.i64 ((x:Int) / 2 ^ d) 1 % 256*2 ^ k % 256)=((g ||| (if x.testBit d then 2 ^ k else 0):Nat):Int):=by
 have h2:2 ^ k≤128:=by have:=Nat.pow_le_pow_right (n:=2) ak (show k≤7 by omega);simpa using this
 rw [←IntKind.wrap_u8' (_*_),←IntKind.wrap_u8',OX x d hx];unfold gT;have e:((if x.testBit d then 1 else 0:Nat):Int)*2 ^ k=((if x.testBit d then 2 ^ k else 0:Nat):Int):=by split;{rw [Int.natCast_pow];simp};{simp}
 rw [OY _ (by split <;> omega),e,OY _ (by split <;> omega),u8_or_nat _ _ hg (by split <;> omega)]
def gy (l:List Nat) (k:Nat):Bool:=(l.getD (k / 8) 0).testBit (k % 8)
def num (l:List Nat) (w i:Nat):Nat:=val (fun j=>gy l (i*w+j)) w
theorem zk (l:List Nat) (w i:Nat):num l w i<2 ^ w:=wz _ _
theorem O7 (g:Nat) (b:Bool) (hg:g<1048576):bits BinOp.or IntKind.i64 ((g:Int)*2) ((gT b:Nat):Int)=(((if b then 1 else 0)+2*g:Nat):Int):=by
 have hd:=Dj b;rw [show (g:Int)*2=((2*g:Nat):Int) by omega,zh _ _ ak ak];congr 1;have:2*g ||| gT b=2*g+gT b:=by
  apply Nat.eq_of_testBit_eq;intro j;rw [Nat.testBit_or];cases b;{simp [gT]}
  · simp only [gT,if_true];cases j with
    | zero=>simp [Nat.testBit_zero]
    | succ j=>rw [Nat.testBit_succ,Nat.testBit_succ,Nat.testBit_succ,show (2*g+1) / 2=g by omega,show 2*g / 2=g by omega];simp
 rw [this,Nat.add_comm];rfl
def nums (l:List Nat) (w n:Nat):List Int:=(List.range n).map fun t=>(num l w t:Int)
theorem Dk (l:List Nat) (w n t:Nat) (h:t<n):(nums l w n).getD t 0=(num l w t:Int):=by simp [nums,List.getD,h]
theorem aaJ (l:List Nat) (w n k:Nat) (h:k<n*w):gU (nums l w n) w k=gy l k:=by
 have hw:0<w:=by rcases Nat.eq_zero_or_pos w with h0 | h0;{rw [h0] at h;simp at h};{exact h0}
 have hk:k / w<n:=by rw [Nat.div_lt_iff_lt_mul hw];exact h
 unfold gU;rw [Dk l w n _ hk,Int.toNat_natCast];unfold num;rw [jc,Nat.mul_comm (k / w) w,Nat.div_add_mod];simp [Nat.mod_lt k hw]
theorem aaK (l:List Nat) (w n:Nat) (hb:∀ i,l.getD i 0<256) (hN:n*w≤8*l.length) :
  ((List.range l.length).map fun t=>fJ (gU (nums l w n) w) 8 (n*w) t)=l↔∀ j,n*w≤j→j<8*l.length→gy l j=false:=by
 have one:∀ t,fJ (gU (nums l w n) w) 8 (n*w) t=val (fun j=>decide (8*t+j<n*w) && gy l (8*t+j)) 8:=by intro t;unfold fJ;refine val_congr fun j _=>?_;by_cases h:8*t+j<n*w;{rw [aaJ l w n _ h]};{simp [h]}
 have two:∀ t,t<l.length→val (fun j=>gy l (8*t+j)) 8=l.getD t 0:=by intro t _;rw [←OQ 8 (l.getD t 0) (by simpa using hb t)];refine val_congr fun j hj=>?_;unfold gy;rw [show (8*t+j) / 8=t by omega,show (8*t+j) % 8=j by omega]
 constructor;{intro h j hj1 hj2;have ht:j / 8<l.length:=ak;have h2:=congrArg (fun s=>s.getD (j / 8) 0) h;simp only [List.getD,List.getElem?_map,List.getElem?_range ht,Option.map_some,Option.getD_some] at h2;have h3:=two (j / 8) ht;simp only [List.getD] at h3;rw [one,←h3] at h2;have h4:=val_inj h2 (j % 8) ak;rw [show 8*(j / 8)+j % 8=j by omega] at h4;rw [←h4];simp;omega};{intro h;refine List.ext_getElem aI fun t h1 h2=>?_;simp only [List.getElem_map,List.getElem_range];rw [one];have h3:=two t h2;simp only [List.getD,List.getElem?_eq_getElem h2,Option.getD_some] at h3;rw [←h3];refine val_congr fun j hj=>?_;by_cases h4:8*t+j<n*w;{simp [h4]};{rw [h (8*t+j) ak ak];simp}}
end Go.Proofs.YtjaebndajhppgaaGreatDoor.Pm
namespace Go.Proofs.YtjaebndajhppgaaGreatDoor
open Go.Proofs.Tryz
open Go.ChangeShapes Go.WideShapes Go.ChangeAt Go.RowKit
theorem O8 (x:Nat) (w:World) (h1:x<18446744073709551616) :
  Calls prog 223 #[.int .u64 x] w fun e w'=>e=.returned (.int .i64 (Bm.pop 64 x:Nat))∧w'=w:=by rw [←Bm.Z7 x h1];go_enter func223,ntmps223;go_wp2;go_ret;exact ⟨rfl,rfl⟩
theorem Tryz.info232:(prog.info? 232).map (fun i=>(i.zero,i.size,i.bytes))=some (some (.int .u64 0),1,8):=aG
theorem Tryz.ninfo3:(prog.info? 3).map (fun i=>(i.zero,i.size,i.bytes))=some (some (.int .i64 0),1,8):=aG
theorem aaL {l:List Bool} {k m:Nat} (h:l.getD k false=false):((List.range m).map fun i=>Value.int .u64 (Bm.word (l.take (k+1)) i))=((List.range m).map fun i=>Value.int .u64 (Bm.word (l.take k) i)):=
 List.map_congr_left fun i _=>by rw [Bm.ZU l k i h]
theorem aaM {l:List Bool} {k m:Nat} (h:l.getD k false=true) (hm:k / 64<m) :
  ((List.range m).map fun i=>Value.int .u64 (Bm.word (l.take k) i)).set (k / 64) (.int .u64 (bits BinOp.or IntKind.u64 (↑(Bm.word (List.take k l) (k / 64))) (IntKind.u64.wrap (2 ^ (k % 64))))) =
    ((List.range m).map fun i=>Value.int .u64 (Bm.word (l.take (k+1)) i)):=by
 have e:bits BinOp.or IntKind.u64 (↑(Bm.word (List.take k l) (k / 64))) (IntKind.u64.wrap (2 ^ (k % 64)))=(Bm.word (l.take (k+1)) (k / 64):Nat):=by
  have h64:2 ^ (k % 64)<18446744073709551616:=by have h:=Nat.pow_lt_pow_right (a:=2) ak (show k % 64<64 by omega);simpa using h
  rw [show ((2:Int) ^ (k % 64))=((2 ^ (k % 64):Nat):Int) from (Int.natCast_pow 2 (k % 64)).symm,Bm.qw _ h64,u64_or_nat _ _ (Bm.word_lt _ _) h64,Bm.ZW l k h]
 rw [e];apply List.ext_getElem?;intro i;rw [List.getElem?_set];split;{rename_i h1;subst h1;simp [hm]};{rename_i h1;simp only [List.getElem?_map];by_cases hi:i<m;{rw [List.getElem?_range hi];simp only [Option.map_some];rw [Bm.ZV l k i ak]};{have e:(List.range m)[i]?=none:=(by simp;omega);rw [e];simp only [Option.map_none]}}
theorem aaN {l:List Bool} {j m:Nat} (hj:j<m) (h:Bm.cnt l (64*j)+Bm.pop 64 (Bm.word l j)=Bm.cnt l (64*j+64)) :
  ((List.range (m+1)).map fun i=>Value.int .i64 (if i≤j then (Bm.cnt l (64*i):Int) else 0)).set (j+1) (.int .i64 ((Bm.cnt l (64*j):Int)+(Bm.pop 64 (Bm.word l j):Int))) =
    ((List.range (m+1)).map fun i=>Value.int .i64 (if i≤j+1 then (Bm.cnt l (64*i):Int) else 0)):=by apply List.ext_getElem?;intro i;rw [List.getElem?_set];simp only [List.getElem?_map,List.length_map,List.length_range];by_cases hi:i<m+1;{rw [List.getElem?_range hi];simp only [Option.map_some];split;{rename_i h1;subst h1;rw [if_pos hi,if_pos aF,show 64*(j+1)=64*j+64 by omega,←h];simp};{rename_i h1;by_cases h2:i≤j;{rw [if_pos h2,if_pos ak]};{rw [if_neg h2,if_neg ak]}}};{have e:(List.range (m+1))[i]?=none:=(by simp;omega);rw [e];split;{rename_i h1;omega};{rfl}}
def jL (w:World) (p:Nat) (l:List Bool):Prop:=∃ bw ba m,l.length≤64*m∧64*m<l.length+64 ∧
 aC w p [.int .i64 l.length,.slice (some ⟨bw,0,none⟩) m m,.slice (some ⟨ba,0,none⟩) (m+1) (m+1)] 260 ∧
 aC w bw ((List.range m).map fun i=>.int .u64 (Bm.word l i)) 232∧aC w ba ((List.range (m+1)).map fun i=>.int .i64 (Bm.cnt l (64*i))) 3
theorem jL.keep {w w':World} {p:Nat} {l:List Bool} (h:jL w p l) (hb:Below w.heap.size w w'):jL w' p l:=by obtain ⟨bw,ba,m,h1,h2,h3,h4,h5⟩:=h;exact ⟨bw,ba,m,h1,h2,h3.keep hb,h4.keep hb,h5.keep hb⟩
theorem aaO (a:Option Addr) (cap:Nat) (l:List Bool) (w:World) (hl:l.length≤4096) (hc0:bM w a l.length fun i=>.bool (l.getD i false)) :
  Calls prog 177 #[.slice a l.length cap] w fun e w'=>∃ p,e=.returned (.pointer (some ⟨p,0,none⟩))∧Below w.heap.size w w'∧jL w' p l ∧
   (∀ w'',(∀ k,w.heap.size≤k→w''.heap[k]?=w'.heap[k]?)→jL w'' p l):=by
 obtain ⟨i0,hi,hz0,hz1,hz2⟩:=info_parts Tryz.info232;obtain ⟨i1,hi1,hy0,hy1,hy2⟩:=info_parts Tryz.ninfo3;generalize hn0:l.length=n at *;have hn:=aj hn0;clear hn0;generalize hm:(n+63) / 64=m at *;have hm2:((n:Int)+64-1) / 64=m:=ak;have hml:n≤64*m:=ak;have Dl:64*m<n+64:=ak;have hmr:m≤64:=ak;have mk1:∀ W:World,(Instr.makeSlice 258 (.int .i64 (m:Int)) (.int .i64 (m:Int))).run prog W=_:=fun W=>run_make W 258 232 i0 _ underlying258 hi hz0 .i64 .i64 m m ak ak (by rw [hz2];omega) ak;go_enter func177,ntmps177;go_wp2;go_loopw [23] (fun i wr=>∃ k:Nat,k≤n∧i=.int .i64 k∧Below w.heap.size w wr∧w.heap.size+1<wr.heap.size ∧
   aC wr w.heap.size ((List.range m).map fun i=>.int .u64 (Bm.word (l.take k) i)) 232 ∧
   aC wr (w.heap.size+1) [.int .i64 n,.slice (some ⟨w.heap.size,0,none⟩) m m,.slice none 0 0] 260) (fun i _=>n-(intOf i).toNat)
 case atStart=>refine ⟨0,Nat.zero_le _,rfl,?_,?_,?_,?_⟩;{exact (((Below.refl _ _).alloc aF _).alloc aI _)};{simp};{refine (aC.new' rfl ?_).alloc _;apply List.ext_getElem?;intro i;simp only [madeCells,Array.toList_map,Array.toList_range,List.getElem?_map,List.take_zero,Bm.ZX];by_cases hi:i<m;{rw [List.getElem?_range hi];simp [Nat.mod_one]};{have e:(List.range m)[i]?=none:=(by simp;omega);rw [e];simp only [Option.map_none]}};{exact aC.new' aI rfl}
 case round=>
  obtain ⟨k,hk,rfl,hb,hz,B1,B2⟩:=hrel;by_cases hlt:k<n
  · obtain ⟨b,off,rfl,hc⟩:=hc0.get hlt;have c0:wr.cell? ⟨b,off+k,none⟩=some (.bool (l.getD k false)):=aD hb (hc k ak);have c1:wr.cell? ⟨w.heap.size,k / 64,none⟩=some (.int .u64 (Bm.word (l.take k) (k / 64))):=B1.cell (by rw [List.getElem?_map,List.getElem?_range ak];rfl);have c2:wr.cell? ⟨w.heap.size+1,1,none⟩=some (.slice (some ⟨w.heap.size,0,none⟩) m m):=B2.cell aI;have f1:=B1.free (k / 64);have hkm:k / 64<m:=ak;have aiM:(k:Int) / 64<m:=ak;cases hbit:l.getD k false
    · rw [hbit] at c0;have HB:=aj hbit;clear hbit hm hm2 mk1;go_wp2;go_roundw
      (case rel=>exact ⟨k+1,ak,aN,hb,hz,by rw [aaL HB.out];exact B1,B2⟩);case measure=>simp [intOf];omega
    · rw [hbit] at c0;have HB:=aj hbit;clear hbit hm hm2 mk1;go_wp2;go_region
      go_wp2;go_roundw
      (case rel=>refine ⟨k+1,ak,aN,(hb.setCell aI _).drew,by simpa using hz,?_,(B2.other ak _ _).drew⟩;have:=(B1.set (k / 64) (.int .u64 (bits BinOp.or IntKind.u64 (↑(Bm.word (List.take k l) (k / 64))) (IntKind.u64.wrap (2 ^ (k % 64)))))).drew;rw [aaM HB.out hkm] at this;exact this);case measure=>simp [intOf];omega
  · obtain rfl:k=n:=ak;have mk2:∀ W:World,(Instr.makeSlice 48 (.int .i64 ((m:Int)+1)) (.int .i64 ((m:Int)+1))).run prog W=_:=fun W=>run_make W 48 3 i1 _ underlying48 hi1 hy0 .i64 .i64 _ _ ak ak (by rw [hy2];omega) ak;have c2:wr.cell? ⟨w.heap.size+1,1,none⟩=some (.slice (some ⟨w.heap.size,0,none⟩) m m):=B2.cell aI;have c3:wr.cell? ⟨w.heap.size+1,2,none⟩=some (.slice none 0 0):=B2.cell aI;have f1:=B2.free 2;clear hm hm2 mk1;go_wp2;obtain ⟨wo,rfl⟩:∃ wo:World,wo=wr:=⟨_,rfl⟩;go_loopw [58] (fun i wr'=>∃ j:Nat,j≤m∧i=.int .i64 j∧Below w.heap.size w wr'∧wo.heap.size<wr'.heap.size ∧
      aC wr' w.heap.size ((List.range m).map fun i=>.int .u64 (Bm.word (l.take k) i)) 232 ∧
      aC wr' (w.heap.size+1) [.int .i64 k,.slice (some ⟨w.heap.size,0,none⟩) m m,.slice (some ⟨wo.heap.size,0,none⟩) (m+1) (m+1)] 260 ∧
      aC wr' wo.heap.size ((List.range (m+1)).map fun i=>.int .i64 (if i≤j then (Bm.cnt l (64*i):Int) else 0)) 3) (fun i _=>m-(intOf i).toNat)
    (case atStart=>refine ⟨0,Nat.zero_le _,rfl,?_,?_,?_,?_,?_⟩;{exact (hb.setCell aI _).alloc (by simp;omega) _};{simp};{exact (B1.other ak _ _).alloc _};{exact (B2.set 2 _).alloc _};{refine aC.new' aI ?_;apply List.ext_getElem?;intro i;simp only [madeCells,Array.toList_map,Array.toList_range,List.getElem?_map];by_cases hi:i<m+1;{rw [List.getElem?_range hi];cases i <;> simp [Bm.Da,Nat.mod_one]};{have e:(List.range (m+1))[i]?=none:=(by simp;omega);rw [e];rfl}});case round=>
     obtain ⟨j,hj,rfl,hb',hz',Dm,GH,B3'⟩:=hrel;by_cases hlt:j<m
     · have c0:wr.cell? ⟨w.heap.size,j,none⟩=some (.int .u64 (Bm.word l j)):=Dm.cell (by rw [List.getElem?_map,List.getElem?_range ak];simp only [Option.map_some,List.take_of_length_le (Nat.le_of_eq hn.out)]);have c1:wr.cell? ⟨w.heap.size+1,2,none⟩=some (.slice (some ⟨wo.heap.size,0,none⟩) (m+1) (m+1)):=GH.cell aI;have c2:wr.cell? ⟨wo.heap.size,j,none⟩=some (.int .i64 (Bm.cnt l (64*j))):=B3'.cell (by rw [List.getElem?_map,List.getElem?_range ak];simp);have c3:wr.cell? ⟨wo.heap.size,j+1,none⟩=some (.int .i64 0):=B3'.cell (by rw [List.getElem?_map,List.getElem?_range ak];simp only [Option.map_some,if_neg (show ¬ j+1≤j by omega)]);have f1:=B3'.free (j+1);have aiN:=Bm.Om 64 (Bm.word l j);have hcnt:=Bm.Db l (64*j);go_wp2;refine Cb 17 aG aG ?_;simp only [List.take_succ_cons,List.take_zero,List.drop_succ_cons,List.drop_zero];(repeat (go_big_quiet_step ((go_at_call 223;exact mO fun W hW=>O8 _ _ (Bm.word_lt l j)))));refine wpQuiet_nil ?_;rintro _ ⟨nq,rfl⟩;go_wp2;have hcj:=Bm.Oo l j 64 aF;go_roundw
       (case rel=>refine ⟨j+1,ak,aN,(bn hb' nq).setCell (by show w.heap.size≤wo.heap.size;omega) _,by simpa using hz',(Dm.drewN nq).other ak _ _,(GH.drewN nq).other ak _ _,?_⟩;have:=(B3'.drewN nq).set (j+1) (.int .i64 ((Bm.cnt l (64*j):Int)+(Bm.pop 64 (Bm.word l j):Int)));rw [aaN hlt hcj] at this;exact this);case measure=>simp [intOf];omega
     · obtain rfl:j=m:=ak;go_wp2;go_ret;have e1:l.take k=l:=List.take_of_length_le (Nat.le_of_eq hn.out);have e2:((List.range (j+1)).map fun i=>Value.int .i64 (if i≤j then (Bm.cnt l (64*i):Int) else 0))=(List.range (j+1)).map fun i=>Value.int .i64 (Bm.cnt l (64*i)):=
         List.map_congr_left fun i hi=>by rw [if_pos (by have:=List.mem_range.1 hi;omega)]
       rw [e1] at Dm;rw [e2] at B3';have key:∀ w'',(∀ k,w.heap.size≤k→w''.heap[k]?=wr.heap[k]?)→jL w'' (w.heap.size+1) l:=fun w'' hw''=>(by refine ⟨w.heap.size,wo.heap.size,j,by rw [hn.out];exact hml,by rw [hn.out];exact Dl,?_,?_,?_⟩;{rw [hn.out];unfold aC at *;rw [hw'' _ ak];exact GH};{unfold aC at *;rw [hw'' _ ak];exact Dm};{unfold aC at *;rw [hw'' _ ak];exact B3'});exact ⟨_,rfl,hb',key wr (fun _ _=>rfl),key⟩
theorem zm (p:Nat) (n:Int) (w:World) (h:w.cell? ⟨p,0,none⟩=some (.int .i64 n)) :
  Calls prog 197 #[.pointer (some ⟨p,0,none⟩)] w fun e w'=>e=.returned (.int .i64 n)∧w'=w:=by go_enter func197,ntmps197;go_wp2;go_ret;exact ⟨rfl,rfl⟩
theorem aaP (p:Nat) (n:Nat) (i:Int) (w:World) (h:w.cell? ⟨p,0,none⟩=some (.int .i64 n)) (hi:i<0∨(n:Int)≤i) :
  Calls prog 156 #[.pointer (some ⟨p,0,none⟩),.int .i64 i] w fun e w'=>e=.returned (.bool false)∧w'=w:=by by_cases h0:i<0;{go_enter func156,ntmps156;go_wp2;go_ret;exact ⟨rfl,rfl⟩};{have hn:¬ i<n:=ak;have hn':(n:Int)≤i:=ak;go_enter func156,ntmps156;(go_wp2_with (go_at_call 197;refine (zm _ _ _ h).mono ?_;rintro e w' ⟨rfl,rfl⟩));go_ret;exact ⟨rfl,rfl⟩}
theorem aaQ (p bw m n i wd:Nat) (w:World) (h:w.cell? ⟨p,0,none⟩=some (.int .i64 n)) (h1:w.cell? ⟨p,1,none⟩=some (.slice (some ⟨bw,0,none⟩) m m)) (hi:i<n) (hm:i / 64<m)
  (h2:w.cell? ⟨bw,i / 64,none⟩=some (.int .u64 wd)) (hn:n≤4096) (hwd:wd<18446744073709551616) :
  Calls prog 156 #[.pointer (some ⟨p,0,none⟩),.int .i64 i] w fun e w'=>e=.returned (.bool (wd.testBit (i % 64)))∧∃ n,w'=w.drewN n:=by
 go_enter func156,ntmps156;go_wp2_with (go_at_call 197;refine (zm _ _ _ h).mono ?_;rintro e w' ⟨rfl,rfl⟩)
 go_ret;refine ⟨?_,0,rfl⟩;show Ending.returned (.bool _)=_;rw [Bm.Z8 wd (i % 64) hwd]
theorem aaR (p:Nat) (l:List Bool) (i:Int) (w:World) (h:jL w p l) (hl:l.length≤4096) :
  Calls prog 156 #[.pointer (some ⟨p,0,none⟩),.int .i64 i] w fun e w'=>e=.returned (.bool (decide (0≤i) && l.getD i.toNat false))∧∃ n,w'=w.drewN n:=by obtain ⟨bw,ba,m,h1,h2,h3,h4,h5⟩:=h;by_cases hi:i<0∨(l.length:Int)≤i;{refine (aaP p l.length i w (h3.cell aI) hi).mono fun e w' ⟨he,hw⟩=>⟨?_,0,hw⟩;rw [he];rcases hi with hi | hi;{simp;omega};{have:l.getD i.toNat false=false:=(by simp [List.getD,List.getElem?_eq_none (show l.length≤i.toNat by omega)]);rw [this];simp}};{obtain ⟨j,rfl⟩:=Int.eq_ofNat_of_zero_le (show 0≤i by omega);have hj:j<l.length:=ak;have hm:j / 64<m:=ak;refine (aaQ p bw m l.length j (Bm.word l (j / 64)) w (h3.cell aI) (h3.cell aI) hj hm (h4.cell (by rw [List.getElem?_map,List.getElem?_range hm];rfl)) hl (Bm.word_lt l _)).mono fun e w' ⟨he,hw⟩=>⟨?_,hw⟩;rw [he,Bm.ZT l _ _ ak,show 64*(j / 64)+j % 64=j by omega];simp}
theorem aaS (p n:Nat) (i:Int) (w:World) (h:w.cell? ⟨p,0,none⟩=some (.int .i64 n)) (hi:i≤0∨n=0) :
  Calls prog 178 #[.pointer (some ⟨p,0,none⟩),.int .i64 i] w fun e w'=>e=.returned (.int .i64 0)∧∃ n,w'=w.drewN n:=by
 go_enter func178,ntmps178;go_wp2_with (go_at_call 197;refine (zm _ _ _ h).mono ?_;rintro e w' ⟨rfl,rfl⟩)
 all_goals
  go_ret
  exact ⟨rfl,0,rfl⟩
theorem aaT (p bw ba m n j ah:Nat) (i:Int) (w:World) (h:w.cell? ⟨p,0,none⟩=some (.int .i64 n)) (h1:w.cell? ⟨p,1,none⟩=some (.slice (some ⟨bw,0,none⟩) m m))
  (h2:w.cell? ⟨p,2,none⟩=some (.slice (some ⟨ba,0,none⟩) (m+1) (m+1))) (hc:(i=j∧j≤n)∨(n=j∧(j:Int)<i)) (h0:0<j) (hj:j / 64=m) (hn:n≤4096)
  (h3:w.cell? ⟨ba,m,none⟩=some (.int .i64 ah)) :
  Calls prog 178 #[.pointer (some ⟨p,0,none⟩),.int .i64 i] w fun e w'=>e=.returned (.int .i64 ah)∧∃ n,w'=w.drewN n:=by
 have hj':(j:Int) / 64=m:=ak;rcases hc with ⟨rfl,hc⟩ | ⟨rfl,hc⟩;all_goals
  go_enter func178,ntmps178
  go_wp2_with (go_at_call 197;refine (zm _ _ _ h).mono ?_;rintro e w' ⟨rfl,rfl⟩)
  go_ret
  exact ⟨rfl,0,rfl⟩
theorem aaU (p bw ba m n j wd ah:Nat) (i:Int) (w:World) (h:w.cell? ⟨p,0,none⟩=some (.int .i64 n)) (h1:w.cell? ⟨p,1,none⟩=some (.slice (some ⟨bw,0,none⟩) m m))
  (h2:w.cell? ⟨p,2,none⟩=some (.slice (some ⟨ba,0,none⟩) (m+1) (m+1))) (hc:(i=j∧j≤n)∨(n=j∧(j:Int)<i)) (h0:0<j) (hj:j / 64<m) (hn:n≤4096)
  (h3:w.cell? ⟨ba,j / 64,none⟩=some (.int .i64 ah)) (h4:w.cell? ⟨bw,j / 64,none⟩=some (.int .u64 wd)) (hwd:wd<18446744073709551616) (hah:ah≤4096) :
  Calls prog 178 #[.pointer (some ⟨p,0,none⟩),.int .i64 i] w fun e w'=>e=.returned (.int .i64 (ah+Bm.pop (j % 64) wd:Nat))∧∃ n,w'=w.drewN n:=by
 have hlt:(j:Int) / 64<m:=ak;have hlt2:(j:Int) / 64<(m:Int)+1:=ak;have hne:((j:Int) / 64==m)=false:=by rw [beq_eq_false_iff_ne];omega
 obtain ⟨lo,q,hpl,O9⟩:∃ lo q:Nat,q≤64∧(bits BinOp.and IntKind.u64 (wd:Int) (IntKind.u64.wrap (IntKind.u64.wrap (2 ^ (j % 64))-1))=(lo:Int)∧q=Bm.pop (j % 64) wd ∧
   ∀ W,Calls prog 223 #[.int .u64 lo] W fun e w'=>e=.returned (.int .i64 q)∧w'=W):=by
  have h:=Bm.aac wd (j % 64) hwd ak
  exact ⟨wd % 2 ^ (j % 64),Bm.pop 64 (wd % 2 ^ (j % 64)),Bm.Om _ _,h.1,h.2,fun W=>O8 _ W (Bm.Z9 wd (j % 64) hwd)⟩
 have HL:=aj O9;clear O9;rcases hc with ⟨rfl,hc⟩ | ⟨rfl,hc⟩;all_goals
  go_enter func178,ntmps178
  go_wp2_with (go_at_call 197;refine (zm _ _ _ h).mono ?_;rintro e w' ⟨rfl,rfl⟩)
  go_quiet (fail)
  go_wp2
  rw [HL.out.1]
  go_quiet ((go_at_call 223;exact Xl fun W hW=>HL.out.2.2 W))
  go_wp2
  go_ret
  exact ⟨jm (by rw [←HL.out.2.1,Int.natCast_add]),_,World.drewN_drewN _ _ _⟩
theorem O_ (p:Nat) (l:List Bool) (i:Int) (w:World) (h:jL w p l) (hl:l.length≤4096) :
  Calls prog 178 #[.pointer (some ⟨p,0,none⟩),.int .i64 i] w fun e w'=>e=.returned (.int .i64 (Bm.rank l i:Nat))∧∃ n,w'=w.drewN n:=by obtain ⟨bw,ba,m,h1,h2,h3,h4,h5⟩:=h;have c0:w.cell? ⟨p,0,none⟩=some (.int .i64 l.length):=h3.cell aI;have c1:w.cell? ⟨p,1,none⟩=some (.slice (some ⟨bw,0,none⟩) m m):=h3.cell aI;have c2:w.cell? ⟨p,2,none⟩=some (.slice (some ⟨ba,0,none⟩) (m+1) (m+1)):=h3.cell aI;by_cases hi:i≤0∨l.length=0;{refine (aaS p l.length i w c0 hi).mono fun e w' ⟨he,hw⟩=>⟨?_,hw⟩;rw [he];have:Bm.rank l i=0:=(by unfold Bm.rank;rcases hi with hi | hi;{rw [show i.toNat=0 by omega,Bm.Da]};{have:=Bm.Ol l i.toNat;rw [hi,Bm.Da] at this;omega});rw [this];rfl};{obtain ⟨j,hc,hr,h0,hjl⟩:∃ j:Nat,((i=j∧j≤l.length)∨(l.length=j∧(j:Int)<i))∧Bm.rank l i=Bm.cnt l j∧0<j∧j≤l.length:=(by by_cases h':i≤l.length;{exact ⟨i.toNat,Or.inl ⟨ak,ak⟩,rfl,ak,ak⟩};{exact ⟨l.length,Or.inr ⟨rfl,ak⟩,Bm.Oj l ak,ak,Nat.le_refl _⟩});rw [hr];have ha:w.cell? ⟨ba,j / 64,none⟩=some (.int .i64 (Bm.cnt l (64*(j / 64)))):=h5.cell (by rw [List.getElem?_map,List.getElem?_range ak];rfl);by_cases hj:j / 64=m;{rw [hj] at ha;refine (aaT p bw ba m l.length j _ i w c0 c1 c2 hc h0 hj hl ha).mono fun e w' ⟨he,hw⟩=>⟨?_,hw⟩;rw [he,show 64*m=j by omega]};{have hj':j / 64<m:=ak;have hb:=Bm.Ol l (64*(j / 64));have hb2:=Bm.Db l l.length;refine (aaU p bw ba m l.length j (Bm.word l (j / 64)) _ i w c0 c1 c2 hc h0 hj' hl ha (h4.cell (by rw [List.getElem?_map,List.getElem?_range hj'];rfl)) (Bm.word_lt _ _) ak).mono fun e w' ⟨he,hw⟩=>⟨?_,hw⟩;rw [he,Bm.Oo l (j / 64) (j % 64) ak,show 64*(j / 64)+j % 64=j by omega]}}
theorem aaV (f:Nat):∀ x:Nat,x<2 ^ f→Lib.bitLenAux f x=Bn.width x:=by
 induction f with
 | zero=>intro x h;obtain rfl:x=0:=(by simpa using h);rfl
 | succ f ih=>intro x h;unfold Lib.bitLenAux;split;{rename_i h0;subst h0;rfl};{rename_i h0;rw [Nat.pow_succ] at h;rw [ih _ ak,Bn.GA x ak,Nat.add_comm]}
theorem aaW (n:Nat) (h:n<256):Lib.len8 (n:Int)=(Bn.width n:Nat):=by have:=Lib.len8_eq ⟨n,h⟩;rw [show ((⟨n,h⟩:Fin 256).val:Int)=(n:Int) from rfl] at this;rw [this];unfold Lib.bitLen;rw [aaV 64 n ak]
theorem aaX (x k:Nat) (h:2 ^ k≤x):Bn.width x=Bn.width (x / 2 ^ k)+k:=by
 induction k with
 | zero=>simp
 | succ k ih=>
  have h2:2 ^ k≤x:=by rw [Nat.pow_succ] at h;omega
  rw [ih h2,Bn.GA (x / 2 ^ k) (Nat.div_pos h2 (Nat.two_pow_pos k)),Nat.div_div_eq_div_mul,Nat.pow_succ];omega
theorem aaY (i:Nat) (p:i<Lib.len8tab.size):((Lib.len8tab[i]'p).toNat:Int)=(Bn.width i:Nat):=by
 have h:i<256:=by rw [Lib.len8tab_size] at p;exact p
 rw [←aaW i h];unfold Lib.len8;rw [Int.toNat_natCast,ByteArray.getElem?_lt' _ _ p];rfl
theorem rX (x:Int) (i k:Nat) (h0:0≤x) (h1:x≤18446744073709551615) (hk:k≤56) (p:i<Lib.len8tab.size) (hi:i=x.toNat / 2 ^ k) (h:2 ^ k≤x.toNat∨k=0) :
  wrap64 ((k:Int)+wrap64 ((Lib.len8tab[i]'p).toNat:Int))=(Bn.width x.toNat:Nat):=by
 have h8:i<256:=by rw [Lib.len8tab_size] at p;exact p
 have hw:=(Bn.width_le i 8).2 (by simpa using h8);have e1:wrap64 ((Bn.width i:Nat):Int)=(Bn.width i:Nat):=IntWalk.wrap64_in _ ⟨ak,ak⟩;rw [aaY,e1,IntWalk.wrap64_in _ ⟨ak,ak⟩];rcases h with h | rfl;{rw [aaX x.toNat k h,←hi];omega};{simp at hi;rw [←hi];omega}
set_option maxRecDepth 100000 in
theorem aaZ (x:Int) (w:World) (h0:0≤x) (h1:x≤18446744073709551615):Calls prog 168 #[.int .u64 x] w fun e w'=>e=.returned (.int .i64 (Bn.width x.toNat:Nat))∧w=w':=by
 have hs:=Lib.len8tab_size;go_enter func168,ntmps168;go_wp2;all_goals (go_ret;refine ⟨congrArg Ending.returned (congrArg (Value.int IntKind.i64) ?_),rfl⟩)
 {exact rX x _ 56 h0 h1 ak _ (by simp;omega) (by simp;omega)};{exact rX x _ 48 h0 h1 ak _ (by simp;omega) (by simp;omega)};{exact rX x _ 40 h0 h1 ak _ (by simp;omega) (by simp;omega)};{exact rX x _ 32 h0 h1 ak _ (by simp;omega) (by simp;omega)};{exact rX x _ 24 h0 h1 ak _ (by simp;omega) (by simp;omega)};{exact rX x _ 16 h0 h1 ak _ (by simp;omega) (by simp;omega)};{exact rX x _ 8 h0 h1 ak _ (by simp;omega) (by simp;omega)};{have:=rX x _ 0 h0 h1 ak (by rw [hs];omega) rfl (Or.inr rfl);simpa using this}
theorem Pb (x:Int) (w:World) (h0:0≤x) (h1:x≤18446744073709551615):Calls prog 118 #[.int .u64 x] w fun e w'=>e=.returned (.int .i64 (Bn.width x.toNat:Nat))∧w=w':=by
 go_enter func118,ntmps118;go_wp2_with (go_at_call 168;refine (aaZ x _ h0 h1).mono ?_;rintro e w' ⟨rfl,rfl⟩)
 go_ret;exact ⟨rfl,rfl⟩
theorem Dn (n:Int) (w:World) (h:n≤9223372036854775807):Calls prog 91 #[.int .i64 n] w fun e w'=>e=.returned (.int .i64 (Bn.width n.toNat:Nat))∧w=w':=by
 by_cases h0:n<0;{have B:=aj (Pb 0 w ak ak);have e:n.toNat=0:=ak;rw [e];go_enter func91,ntmps91;(go_wp2_with (go_at_call 118;refine B.out.mono ?_;rintro e w' ⟨rfl,rfl⟩));go_ret;exact ⟨rfl,rfl⟩}
 · have h0':0≤n:=ak;have B:=aj (Pb n w h0' ak);go_enter func91,ntmps91;(go_wp2_with (go_at_call 118;refine B.out.mono ?_;rintro e w' ⟨rfl,rfl⟩));all_goals
    go_ret
    exact ⟨rfl,rfl⟩
def mb (n w:Int):Bool:=decide (0≤n∧n≤1000∧0≤w∧w≤20)
theorem Dp (n w:Int) (W:World):Calls prog 139 #[.int .i64 n,.int .i64 w] W fun e W'=>e=.returned (.bool (mb n w))∧W=W':=by by_cases h1:0≤n;{by_cases h2:n≤1000;{by_cases h3:0≤w;{go_enter func139,ntmps139;go_wp2;go_ret;exact ⟨gF (by unfold mb;rw [decide_eq_decide];omega),rfl⟩};{go_enter func139,ntmps139;go_wp2;go_ret;exact ⟨gF (by unfold mb;rw [eq_comm,decide_eq_false_iff_not];omega),rfl⟩}};{go_enter func139,ntmps139;go_wp2;go_ret;exact ⟨gF (by unfold mb;rw [eq_comm,decide_eq_false_iff_not];omega),rfl⟩}};{go_enter func139,ntmps139;go_wp2;go_ret;exact ⟨gF (by unfold mb;rw [eq_comm,decide_eq_false_iff_not];omega),rfl⟩}
theorem GI (n w:Nat) (W:World) (hn:n≤1000) (hw:w≤20):Calls prog 140 #[.int .i64 n,.int .i64 w] W fun e W'=>e=.returned (.int .i64 (Pm.size n w:Nat))∧W=W':=by
 have hm:n*w≤20000:=Nat.le_trans (Nat.mul_le_mul hn hw) ak;obtain ⟨N,hN⟩:=aB (n*w);have rY:(n:Int)*w=N:=by rw [hN];simp
 rw [←hN] at hm;have HN:=aj hN;clear hN;go_enter func140,ntmps140;go_wp2;go_ret;exact ⟨jm (by unfold Pm.size;rw [←HN.out];omega),rfl⟩
theorem Tryz.inforg5:(prog.info? 5).map (fun i=>(i.zero,i.size,i.bytes))=some (some (.int .u8 0),1,1):=aG
def iC (l:List Int) (w k m:Nat):List Value:=(List.range m).map fun t=>.int .u8 (Bn.fJ (Pm.gU l w) 8 k t)
theorem zn {l:List Int} {w k m t:Nat} (h:t<m):(iC l w k m)[t]?=some (.int .u8 (Bn.fJ (Pm.gU l w) 8 k t)):=by unfold iC;rw [List.getElem?_map,List.getElem?_range h];rfl
theorem Pf (l:List Int) (w m:Nat):(madeCells #[.int .u8 0] (m*1)).toList=iC l w 0 m:=by apply List.ext_getElem?;intro t;simp only [madeCells,Array.toList_map,Array.toList_range,List.getElem?_map,iC,Bn.aaG];by_cases ht:t<m;{rw [List.getElem?_range ak,List.getElem?_range ht];simp [Nat.mod_one]};{have e:(List.range m)[t]?=none:=(by simp;omega);have e':(List.range (m*1))[t]?=none:=(by simp;omega);rw [e,e'];simp only [Option.map_none]}
theorem Pg {l:List Int} {w k m:Nat} (h:k / 8<m):(iC l w k m).set (k / 8) (.int .u8 (Bn.fJ (Pm.gU l w) 8 (k+1) (k / 8):Nat))=iC l w (k+1) m:=by
 apply List.ext_getElem?;intro t;rw [List.getElem?_set];have hl:(iC l w k m).length=m:=by simp [iC]
 by_cases ht:t<m;{rw [zn ht,zn ht,hl];split;{rename_i h1;subst h1;rfl};{rename_i h1;rw [Bn.aaH _ ak ak]}};{have e:∀ k,(iC l w k m)[t]?=none:=fun k=>(by simp [iC];omega);rw [e,e,if_neg ak]}
theorem Ph (a:Option Addr) (n cap w:Nat) (l:List Int) (W:World) (hn:n=l.length) (hm:Pm.May l w) (hR:bM W a n fun i=>.int .i64 (l.getD i 0)) :
  Calls prog 105 #[.slice a n cap,.int .i64 w] W fun e W'=>∃ b,e=.returned (.tuple #[.slice (some ⟨b,0,none⟩) (Pm.size n w) (Pm.size n w),.int .i64 0])∧Below W.heap.size W W'∧W.heap.size≤b ∧
   aC W' b (iC l w (n*w) (Pm.size n w)) 5:=by
 obtain ⟨_,uz,hn1,hv⟩:=hm;rw [←hn] at hn1 hv;have hw:w≤20:=ak;have HV:=aj hv;have HN:=aj hn;clear hv hn;obtain ⟨i0,hi,hz0,hz1,hz2⟩:=info_parts Tryz.inforg5;obtain ⟨m,hmm⟩:=aB (Pm.size n w);have hmb:m≤2501:=by rw [hmm];unfold Pm.size;have:n*w≤20000:=Nat.le_trans (Nat.mul_le_mul hn1 hw) ak;omega
 have MB:=aj (fun W'=>Dp n w W');rw [show mb n w=true by simp [mb];omega] at MB;have SZ:=aj (fun W'=>GI n w W' hn1 hw);rw [←hmm] at SZ ⊢;have HM:=aj hmm;clear hmm;have mk1:∀ W:World,(Instr.makeSlice 32 (.int .i64 (m:Int)) (.int .i64 (m:Int))).run prog W=_:=fun W=>run_make W 32 5 i0 _ underlying32 hi hz0 .i64 .i64 m m ak ak (by rw [hz2];omega) ak;go_enter func105,ntmps105;go_wp2_with (go_at_call 139;refine (MB.out _).mono ?_;rintro e w' ⟨rfl,rfl⟩)
 go_loop [20] (fun s=>∃ i:Nat,i≤n∧s=.int .i64 i) (fun s=>n-(intOf s).toNat)
 case atStart=>exact ⟨0,ak,rfl⟩
 case round=>
  obtain ⟨i,hin,rfl⟩:=hrel;by_cases hlt:i<n
  · obtain ⟨b,off,rfl,hc⟩:=hR.get hlt;have c0:=hc i hlt;have hx:=HV.out i hlt;obtain ⟨x,hx0⟩:=Int.eq_ofNat_of_zero_le hx.1;rw [hx0] at c0 hx;have hxw:x<2 ^ w:=(by simpa using hx.2);have Pj:x<1048576:=Nat.lt_of_lt_of_le hxw (Nat.pow_le_pow_right ak hw);have WD:=aj (fun W'=>Dn (x:Int) W' ak);have hwd:=(Bn.width_le x w).2 hxw;simp only [Int.toNat_natCast] at WD;obtain ⟨wd,nS⟩:=aB (Bn.width x);rw [←nS] at WD hwd;clear hc hx hx0 nS hxw mk1;(go_wp2_with (go_at_call 91;refine (WD.out _).mono ?_;rintro e w' ⟨rfl,rfl⟩));go_round
    (case rel=>exact ⟨i+1,ak,aN⟩);case measure=>simp [intOf];omega
  · (go_wp2_with (go_at_call 140;refine (SZ.out _).mono ?_;rintro e w' ⟨rfl,rfl⟩));clear mk1;go_loopw [40] (fun uD wr=>∃ i:Nat,i≤n∧uD=.int .i64 i∧aC wr W.heap.size (iC l w (i*w) m) 5∧Below W.heap.size W wr∧W.heap.size<wr.heap.size) (fun uD _=>n-(intOf uD).toNat)
    (case atStart=>refine ⟨0,ak,rfl,?_,(Below.refl _ _).alloc aF _,aI⟩;refine aC.new' rfl ?_;rw [Nat.zero_mul];have:=Pf l w m;rwa [Nat.mul_one] at this);case round=>
     obtain ⟨i,hin,rfl,B,hb,hz⟩:=hrel;by_cases hlt:i<n
     · obtain ⟨b,off,rfl,hc⟩:=hR.get hlt;have c0:=aD hb (hc i hlt);have hx:=HV.out i hlt;obtain ⟨x,hx0⟩:=Int.eq_ofNat_of_zero_le hx.1;rw [hx0] at c0;have HX:=aj hx0;have hxw:x<2 ^ w:=(by have h:=hx.2;rw [hx0] at h;simpa using h);have Pj:x<1048576:=Nat.lt_of_lt_of_le hxw (Nat.pow_le_pow_right ak hw);clear hx0 hc hx hxw;obtain ⟨iw,hiw⟩:=aB (i*w);have GJ:(i:Int)*w=iw:=(by rw [hiw];simp);have hnw:n*w≤20000:=Nat.le_trans (Nat.mul_le_mul hn1 hw) ak;have Dq:iw+w≤n*w:=(by have:=Nat.mul_le_mul_right w (show i+1≤n by omega);rw [Nat.add_mul] at this;omega);have hmw:n*w≤8*m:=(by rw [HM.out];unfold Pm.size;omega);rw [←hiw] at B;have qx:=aj hiw;obtain ⟨N,hN⟩:=aB (n*w);rw [←hN] at hnw Dq hmw;clear hiw hN;go_wp2;obtain ⟨wo,rfl⟩:∃ wo:World,wo=wr:=⟨_,rfl⟩;go_loopw [46] (fun GK wr=>∃ d:Nat,d≤w∧GK=.int .i64 d∧aC wr W.heap.size (iC l w (iw+d) m) 5∧Below W.heap.size W wr∧W.heap.size<wr.heap.size) (fun GK _=>w-(intOf GK).toNat)
       (case atStart=>exact ⟨0,ak,rfl,B,hb,hz⟩);case round=>
        obtain ⟨d,hdw,rfl,B2,hb2,hz2⟩:=hrel;by_cases hdl:d<w
        · have hat:(iw+d) / 8<m:=ak;have hat':((iw:Int)+d) / 8<m:=ak;have c1:=B2.cell (zn (l:=l) (w:=w) (k:=iw+d) hat);have f1:=B2.free ((iw+d) / 8);have hg:=Bn.ze (Pm.gU l w) 8 (iw+d) ((iw+d) / 8);obtain ⟨g,hg0⟩:=aB (Bn.fJ (Pm.gU l w) 8 (iw+d) ((iw+d) / 8));rw [←hg0] at c1 hg;have HS:=aj (show g ||| (if x.testBit d then 2 ^ ((iw+d) % 8) else 0)=Bn.fJ (Pm.gU l w) 8 (iw+d+1) ((iw+d) / 8) by rw [Bn.OT _ ak,hg0,qx.out,Pm.GD l w i d hdl,HX.out,Int.toNat_natCast]);have HB:=aj (Pm.OZ x d g ((iw+d) % 8) ak (by simpa using hg) ak);clear hg0 hg;go_wp2;go_region
          go_wp2;go_roundw
          (case rel=>refine ⟨d+1,ak,aN,?_,(hb2.setCell aI _).drew,by simpa using hz2⟩;have B3:=(B2.set ((iw+d) / 8) (.int .u8 ((g ||| (if x.testBit d then 2 ^ ((iw+d) % 8) else 0):Nat):Int))).drew;rw [HS.out,Pg hat] at B3;rw [HB.out,HS.out];exact B3);case measure=>simp [intOf];omega
        · obtain rfl:d=w:=ak;go_wp2;go_roundw
          (case rel=>refine ⟨i+1,ak,aN,?_,hb2,hz2⟩;rw [show (i+1)*d=iw+d by rw [qx.out,Nat.add_mul];omega];exact B2);case measure=>simp [intOf];omega
     · obtain rfl:i=n:=ak;go_wp2;go_ret2
       exact ⟨_,rfl,hb,Nat.le_refl _,B⟩
end Go.Proofs.YtjaebndajhppgaaGreatDoor
