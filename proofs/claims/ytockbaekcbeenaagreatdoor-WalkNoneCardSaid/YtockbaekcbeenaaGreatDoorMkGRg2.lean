/-GRg2-/
import Derived.Test.YtockbaekcbeenaaGreatDoorMkHd1
import Derived.WalkKit
import Derived.Test.YtockbaekcbeenaaGreatDoorMkGB
import Derived.Test.YtockbaekcbeenaaGreatDoorMkGRg1
import Derived.Shelf.Spec.TrailingZeros
import Derived.Lib.BitFns
set_option linter.unusedVariables false
set_option maxRecDepth 100000
set_option linter.unusedSimpArgs false
set_option maxHeartbeats 1000000
namespace Go.Proofs.YtockbaekcbeenaaGreatDoor.Bn
open Go Go.RowKit
def val (f:Nat→Bool):Nat→Nat
 | 0=>0
 | n+1=>(if f 0 then 1 else 0)+2*val (fun j=>f (j+1)) n
theorem Du (n:Nat):∀ f:Nat→Bool,val f n<2 ^ n:=by
 induction n with
 | zero=>intro f;simp [val]
 | succ n ih=>intro f;simp only [val,Nat.pow_succ];have:=ih (fun j=>f (j+1));split <;> omega
theorem og (n:Nat):∀ (f:Nat→Bool) (j:Nat),(val f n).testBit j=(decide (j<n) && f j):=by
 induction n with
 | zero=>intro f j;simp [val]
 | succ n ih=>
  intro f j;cases j with
  | zero=>simp only [val,Nat.testBit_zero];cases f 0 <;> simp
  | succ j=>rw [Nat.testBit_succ];have:val f (n+1) / 2=val (fun j=>f (j+1)) n:=(by simp only [val];split <;> omega);rw [this,ih];simp
theorem val_congr {n:Nat} {f g:Nat→Bool} (h:∀ j,j<n→f j=g j):val f n=val g n:=by apply Nat.eq_of_testBit_eq;intro j;rw [og,og];by_cases hj:j<n;{rw [h j hj]};{simp [hj]}
def mJ (bit:Nat→Bool) (c k t:Nat):Nat:=val (fun j=>decide (c*t+j<k) && bit (c*t+j)) c
theorem XE (bit:Nat→Bool) (c k t:Nat):mJ bit c k t<2 ^ c:=Du _ _
theorem XF (bit:Nat→Bool) (c t:Nat):mJ bit c 0 t=0:=by unfold mJ;rw [val_congr (g:=fun _=>false) (fun j _=>aH)];apply Nat.eq_of_testBit_eq;intro j;rw [og];simp
theorem XG (bit:Nat→Bool) {c k t:Nat} (hc:0<c) (h:t≠k / c):mJ bit c (k+1) t=mJ bit c k t:=by unfold mJ;refine val_congr fun j hj=>?_;have h1:c*t+j≠k:=fun he=>h (by rw [←he,Nat.mul_add_div hc,Nat.div_eq_of_lt hj];omega);congr 1;rw [decide_eq_decide];omega
theorem XH (bit:Nat→Bool) {c k:Nat} (hc:0<c):mJ bit c (k+1) (k / c)=mJ bit c k (k / c) ||| (if bit k then 2 ^ (k % c) else 0):=by apply Nat.eq_of_testBit_eq;intro j;have hk:=Nat.div_add_mod k c;have hm:=Nat.mod_lt k hc;unfold mJ;rw [Nat.testBit_or,og,og];by_cases hj:j<c;{by_cases he:j=k % c;{subst he;rw [hk];cases hb:bit k <;> simp [hj,Nat.testBit_two_pow]};{have h1:(if bit k then 2 ^ (k % c) else 0).testBit j=false:=(by split;{rw [Nat.testBit_two_pow];simp;omega};{simp});rw [h1,Bool.or_false];congr 2;rw [decide_eq_decide];omega}};{have h1:(if bit k then 2 ^ (k % c) else 0).testBit j=false:=(by split;{rw [Nat.testBit_two_pow];simp;omega};{simp});simp [hj,h1]}
def width (n:Nat):Nat:=if n=0 then 0 else n.log2+1
theorem width_le (n w:Nat):width n≤w↔n<2 ^ w:=by unfold width;split;{rename_i h;subst h;simp [Nat.two_pow_pos]};{rename_i h;rw [←Nat.log2_lt h];omega}
theorem NU (n:Nat) (h:0<n):width n=width (n / 2)+1:=by
 have key:∀ w,width n≤w↔width (n / 2)+1≤w:=by
  intro w;cases w with
  | zero=>rw [width_le];simp;omega
  | succ w=>rw [width_le,Nat.pow_succ];have:=width_le (n / 2) w;omega
 have h1:=(key (width n)).1 aG;have h2:=(key (width (n / 2)+1)).2 aG;omega
def lI (b:Bool):Nat:=if b then 1 else 0
theorem NV (b:Bool):lI b<2:=by cases b <;> simp [lI]
theorem DC (a:Nat) (ha:a<9223372036854775808):(BitVec.ofInt 64 (a:Int)).toNat=a:=by rw [BitVec.ofInt_natCast,BitVec.toNat_ofNat];exact Nat.mod_eq_of_lt ay
theorem XI (a b:Nat) (ha:a<9223372036854775808) (hb:b<9223372036854775808):bits .and .i64 (a:Int) (b:Int)=((a &&& b:Nat):Int):=by have hx:a &&& b<2 ^ 63:=Nat.and_lt_two_pow _ ay;show IntKind.i64.wrap ((BitVec.ofInt 64 (a:Int) &&& BitVec.ofInt 64 (b:Int)).toNat:Int)=_;rw [BitVec.toNat_and,DC a ha,DC b hb,IntKind.wrap_i64];omega
theorem XJ (a b:Nat) (ha:a<9223372036854775808) (hb:b<9223372036854775808):bits .or .i64 (a:Int) (b:Int)=((a ||| b:Nat):Int):=by have hx:a ||| b<2 ^ 63:=Nat.or_lt_two_pow ay ay;show IntKind.i64.wrap ((BitVec.ofInt 64 (a:Int) ||| BitVec.ofInt 64 (b:Int)).toNat:Int)=_;rw [BitVec.toNat_or,DC a ha,DC b hb,IntKind.wrap_i64];omega
theorem XK (x d:Nat):(x:Int) / 2 ^ d=((x / 2 ^ d:Nat):Int):=by rw [Int.natCast_ediv,Int.natCast_pow];rfl
theorem XL (x d:Nat):x / 2 ^ d &&& 1=if x.testBit d then 1 else 0:=by rw [Nat.and_one_is_mod,Nat.testBit_eq_decide_div_mod_eq];have hy:x / 2 ^ d % 2<2:=Nat.mod_lt _ ay;generalize x / 2 ^ d % 2=y at *;by_cases h:y=1;{simp [h]};{simp [h];omega}
theorem NY (x d:Nat) (h:x<9223372036854775808):bits BinOp.and IntKind.i64 ((x:Int) / 2 ^ d) 1=((lI (x.testBit d):Nat):Int):=by have hd:x / 2 ^ d<9223372036854775808:=Nat.lt_of_le_of_lt (Nat.div_le_self _ _) h;have:=XI (x / 2 ^ d) 1 hd ay;rw [XK,show (1:Int)=((1:Nat):Int) from rfl,this,XL];rfl
theorem NZ (n:Nat) (h:n<256):IntKind.u8.wrap (n:Int)=n:=by rw [IntKind.wrap_u8'];omega
end Go.Proofs.YtockbaekcbeenaaGreatDoor.Bn
namespace Go.Proofs.YtockbaekcbeenaaGreatDoor.Pm
open Go Go.RowKit Go.Proofs.YtockbaekcbeenaaGreatDoor.Bn
def tK (l:List Int) (w k:Nat):Bool:=(l.getD (k / w) 0).toNat.testBit (k % w)
def size (n w:Nat):Nat:=(n*w+7) / 8
def May (l:List Int) (w:Int):Prop:=0≤w∧w≤20∧l.length≤1000∧∀ i,i<l.length→0≤l.getD i 0∧(l.getD i 0).toNat<2 ^ w.toNat
theorem XM (l:List Int) (w i d:Nat) (hd:d<w):tK l w (i*w+d)=(l.getD i 0).toNat.testBit d:=by
 unfold tK;have h1:(i*w+d) / w=i:=by rw [Nat.mul_comm,Nat.mul_add_div ay,Nat.div_eq_of_lt hd];rfl
 have h2:(i*w+d) % w=d:=by rw [Nat.mul_comm,Nat.mul_add_mod,Nat.mod_eq_of_lt hd]
 rw [h1,h2]
theorem XO (x d g k:Nat) (hx:x<9223372036854775808) (hg:g<256) (hk:k<8) :
  bits BinOp.or IntKind.u8 (g:Int) (bits BinOp.and IntKind.i64 ((x:Int) / 2 ^ d) 1 % 256*2 ^ k % 256)=((g ||| (if x.testBit d then 2 ^ k else 0):Nat):Int):=by
 have h2:2 ^ k≤128:=by have:=Nat.pow_le_pow_right (n:=2) ay (show k≤7 by omega);simpa using this
 rw [←IntKind.wrap_u8' (_*_),←IntKind.wrap_u8',NY x d hx];unfold lI;have e:((if x.testBit d then 1 else 0:Nat):Int)*2 ^ k=((if x.testBit d then 2 ^ k else 0:Nat):Int):=by split;{rw [Int.natCast_pow];simp};{simp}
 rw [NZ _ (by split <;> omega),e,NZ _ (by split <;> omega),u8_or_nat _ _ hg (by split <;> omega)]
def XP (l:List Nat) (k:Nat):Bool:=(l.getD (k / 8) 0).testBit (k % 8)
def num (l:List Nat) (w i:Nat):Nat:=val (fun j=>XP l (i*w+j)) w
theorem DF (l:List Nat) (w i:Nat):num l w i<2 ^ w:=Du _ _
theorem XQ (g:Nat) (b:Bool) (hg:g<1048576):bits BinOp.or IntKind.i64 ((g:Int)*2) ((lI b:Nat):Int)=(((if b then 1 else 0)+2*g:Nat):Int):=by
 have hd:=NV b;rw [show (g:Int)*2=((2*g:Nat):Int) by omega,XJ _ _ ay ay];congr 1;have:2*g ||| lI b=2*g+lI b:=by
  apply Nat.eq_of_testBit_eq;intro j;rw [Nat.testBit_or];cases b;{simp [lI]}
  · simp only [lI,if_true];cases j with
    | zero=>simp [Nat.testBit_zero]
    | succ j=>rw [Nat.testBit_succ,Nat.testBit_succ,Nat.testBit_succ,show (2*g+1) / 2=g by omega,show 2*g / 2=g by omega];simp
 rw [this,Nat.add_comm];rfl
def nums (l:List Nat) (w n:Nat):List Int:=(List.range n).map fun t=>(num l w t:Int)
end Go.Proofs.YtockbaekcbeenaaGreatDoor.Pm
namespace Go.Proofs.YtockbaekcbeenaaGreatDoor
open Go.Proofs.Tryz
open Go.ChangeShapes Go.WideShapes Go.ChangeAt Go.RowKit
theorem N7 (x:Nat) (w:World) (h1:x<18446744073709551616) :
  Calls prog 183 #[.int .u64 x] w fun e w'=>e=.returned (.int .i64 (Bm.pop 64 x:Nat))∧w'=w:=by rw [←Bm.WV x h1];go_enter func183,ntmps183;go_wp2;go_ret;exact ⟨rfl,rfl⟩
theorem Tryz.info216:(prog.info? 216).map (fun i=>(i.zero,i.size,i.bytes))=some (some (.int .u64 0),1,8):=aF
theorem Tryz.ninfo3:(prog.info? 3).map (fun i=>(i.zero,i.size,i.bytes))=some (some (.int .i64 0),1,8):=aF
theorem XR {l:List Bool} {k m:Nat} (h:l.getD k false=false):((List.range m).map fun i=>Value.int .u64 (Bm.word (l.take (k+1)) i))=((List.range m).map fun i=>Value.int .u64 (Bm.word (l.take k) i)):=
 List.map_congr_left fun i _=>by rw [Bm.WI l k i h]
theorem XT {l:List Bool} {k m:Nat} (h:l.getD k false=true) (hm:k / 64<m) :
  ((List.range m).map fun i=>Value.int .u64 (Bm.word (l.take k) i)).set (k / 64) (.int .u64 (bits BinOp.or IntKind.u64 (↑(Bm.word (List.take k l) (k / 64))) (IntKind.u64.wrap (2 ^ (k % 64))))) =
    ((List.range m).map fun i=>Value.int .u64 (Bm.word (l.take (k+1)) i)):=by
 have e:bits BinOp.or IntKind.u64 (↑(Bm.word (List.take k l) (k / 64))) (IntKind.u64.wrap (2 ^ (k % 64)))=(Bm.word (l.take (k+1)) (k / 64):Nat):=by
  have h64:2 ^ (k % 64)<18446744073709551616:=by have h:=Nat.pow_lt_pow_right (a:=2) ay (show k % 64<64 by omega);simpa using h
  rw [show ((2:Int) ^ (k % 64))=((2 ^ (k % 64):Nat):Int) from (Int.natCast_pow 2 (k % 64)).symm,Bm.rC _ h64,u64_or_nat _ _ (Bm.word_lt _ _) h64,Bm.WK l k h]
 rw [e];apply List.ext_getElem?;intro i;rw [List.getElem?_set];split;{rename_i h1;subst h1;simp [hm]};{rename_i h1;simp only [List.getElem?_map];by_cases hi:i<m;{rw [List.getElem?_range hi];simp only [Option.map_some];rw [Bm.WJ l k i ay]};{have e:(List.range m)[i]?=none:=(by simp;omega);rw [e];simp only [Option.map_none]}}
theorem XU {l:List Bool} {j m:Nat} (hj:j<m) (h:Bm.cnt l (64*j)+Bm.pop 64 (Bm.word l j)=Bm.cnt l (64*j+64)) :
  ((List.range (m+1)).map fun i=>Value.int .i64 (if i≤j then (Bm.cnt l (64*i):Int) else 0)).set (j+1) (.int .i64 ((Bm.cnt l (64*j):Int)+(Bm.pop 64 (Bm.word l j):Int))) =
    ((List.range (m+1)).map fun i=>Value.int .i64 (if i≤j+1 then (Bm.cnt l (64*i):Int) else 0)):=by apply List.ext_getElem?;intro i;rw [List.getElem?_set];simp only [List.getElem?_map,List.length_map,List.length_range];by_cases hi:i<m+1;{rw [List.getElem?_range hi];simp only [Option.map_some];split;{rename_i h1;subst h1;rw [if_pos hi,if_pos aG,show 64*(j+1)=64*j+64 by omega,←h];simp};{rename_i h1;by_cases h2:i≤j;{rw [if_pos h2,if_pos ay]};{rw [if_neg h2,if_neg ay]}}};{have e:(List.range (m+1))[i]?=none:=(by simp;omega);rw [e];split;{rename_i h1;omega};{rfl}}
def kP (w:World) (p:Nat) (l:List Bool):Prop:=∃ bw ba m,l.length≤64*m∧64*m<l.length+64 ∧
 aB w p [.int .i64 l.length,.slice (some ⟨bw,0,none⟩) m m,.slice (some ⟨ba,0,none⟩) (m+1) (m+1)] 266 ∧
 aB w bw ((List.range m).map fun i=>.int .u64 (Bm.word l i)) 216∧aB w ba ((List.range (m+1)).map fun i=>.int .i64 (Bm.cnt l (64*i))) 3
theorem kP.keep {w w':World} {p:Nat} {l:List Bool} (h:kP w p l) (hb:Below w.heap.size w w'):kP w' p l:=by obtain ⟨bw,ba,m,h1,h2,h3,h4,h5⟩:=h;exact ⟨bw,ba,m,h1,h2,h3.keep hb,h4.keep hb,h5.keep hb⟩
theorem XV (a:Option Addr) (cap:Nat) (l:List Bool) (w:World) (hl:l.length≤4096) (hc0:gM w a l.length fun i=>.bool (l.getD i false)) :
  Calls prog 137 #[.slice a l.length cap] w fun e w'=>∃ p,e=.returned (.pointer (some ⟨p,0,none⟩))∧Below w.heap.size w w'∧kP w' p l ∧
   (∀ w'',(∀ k,w.heap.size≤k→w''.heap[k]?=w'.heap[k]?)→kP w'' p l):=by
 obtain ⟨i0,hi,hz0,hz1,hz2⟩:=info_parts Tryz.info216;obtain ⟨i1,hi1,hy0,hy1,hy2⟩:=info_parts Tryz.ninfo3;generalize hn0:l.length=n at *;have hn:=aj hn0;clear hn0;generalize hm:(n+63) / 64=m at *;have hm2:((n:Int)+64-1) / 64=m:=ay;have hml:n≤64*m:=ay;have XW:64*m<n+64:=ay;have hmr:m≤64:=ay;have mk1:∀ W:World,(Instr.makeSlice 264 (.int .i64 (m:Int)) (.int .i64 (m:Int))).run prog W=_:=fun W=>run_make W 264 216 i0 _ underlying264 hi hz0 .i64 .i64 m m ay ay (by rw [hz2];omega) ay;go_enter func137,ntmps137;go_wp2;go_loopw [23] (fun i wr=>∃ k:Nat,k≤n∧i=.int .i64 k∧Below w.heap.size w wr∧w.heap.size+1<wr.heap.size ∧
   aB wr w.heap.size ((List.range m).map fun i=>.int .u64 (Bm.word (l.take k) i)) 216 ∧
   aB wr (w.heap.size+1) [.int .i64 n,.slice (some ⟨w.heap.size,0,none⟩) m m,.slice none 0 0] 266) (fun i _=>n-(intOf i).toNat)
 case atStart=>refine ⟨0,Nat.zero_le _,rfl,?_,?_,?_,?_⟩;{exact (((Below.refl _ _).alloc aG _).alloc aH _)};{simp};{refine (aB.new' rfl ?_).alloc _;apply List.ext_getElem?;intro i;simp only [madeCells,Array.toList_map,Array.toList_range,List.getElem?_map,List.take_zero,Bm.WM];by_cases hi:i<m;{rw [List.getElem?_range hi];simp [Nat.mod_one]};{have e:(List.range m)[i]?=none:=(by simp;omega);rw [e];simp only [Option.map_none]}};{exact aB.new' aH rfl}
 case round=>
  obtain ⟨k,hk,rfl,hb,hz,B1,B2⟩:=hrel;by_cases hlt:k<n
  · obtain ⟨b,off,rfl,hc⟩:=hc0.get hlt;have c0:wr.cell? ⟨b,off+k,none⟩=some (.bool (l.getD k false)):=aD hb (hc k ay);have c1:wr.cell? ⟨w.heap.size,k / 64,none⟩=some (.int .u64 (Bm.word (l.take k) (k / 64))):=B1.cell (by rw [List.getElem?_map,List.getElem?_range ay];rfl);have c2:wr.cell? ⟨w.heap.size+1,1,none⟩=some (.slice (some ⟨w.heap.size,0,none⟩) m m):=B2.cell aH;have f1:=B1.free (k / 64);have hkm:k / 64<m:=ay;have ahm:(k:Int) / 64<m:=ay;cases hbit:l.getD k false
    · rw [hbit] at c0;have HB:=aj hbit;clear hbit hm hm2 mk1;go_wp2;go_roundw
      (case rel=>exact ⟨k+1,ay,aN,hb,hz,by rw [XR HB.out];exact B1,B2⟩);case measure=>simp [intOf];omega
    · rw [hbit] at c0;have HB:=aj hbit;clear hbit hm hm2 mk1;go_wp2;go_region
      go_wp2;go_roundw
      (case rel=>refine ⟨k+1,ay,aN,(hb.setCell aH _).drew,by simpa using hz,?_,(B2.other ay _ _).drew⟩;have:=(B1.set (k / 64) (.int .u64 (bits BinOp.or IntKind.u64 (↑(Bm.word (List.take k l) (k / 64))) (IntKind.u64.wrap (2 ^ (k % 64)))))).drew;rw [XT HB.out hkm] at this;exact this);case measure=>simp [intOf];omega
  · obtain rfl:k=n:=ay;have mk2:∀ W:World,(Instr.makeSlice 35 (.int .i64 ((m:Int)+1)) (.int .i64 ((m:Int)+1))).run prog W=_:=fun W=>run_make W 35 3 i1 _ underlying35 hi1 hy0 .i64 .i64 _ _ ay ay (by rw [hy2];omega) ay;have c2:wr.cell? ⟨w.heap.size+1,1,none⟩=some (.slice (some ⟨w.heap.size,0,none⟩) m m):=B2.cell aH;have c3:wr.cell? ⟨w.heap.size+1,2,none⟩=some (.slice none 0 0):=B2.cell aH;have f1:=B2.free 2;clear hm hm2 mk1;go_wp2;obtain ⟨wo,rfl⟩:∃ wo:World,wo=wr:=⟨_,rfl⟩;go_loopw [58] (fun i wr'=>∃ j:Nat,j≤m∧i=.int .i64 j∧Below w.heap.size w wr'∧wo.heap.size<wr'.heap.size ∧
      aB wr' w.heap.size ((List.range m).map fun i=>.int .u64 (Bm.word (l.take k) i)) 216 ∧
      aB wr' (w.heap.size+1) [.int .i64 k,.slice (some ⟨w.heap.size,0,none⟩) m m,.slice (some ⟨wo.heap.size,0,none⟩) (m+1) (m+1)] 266 ∧
      aB wr' wo.heap.size ((List.range (m+1)).map fun i=>.int .i64 (if i≤j then (Bm.cnt l (64*i):Int) else 0)) 3) (fun i _=>m-(intOf i).toNat)
    (case atStart=>refine ⟨0,Nat.zero_le _,rfl,?_,?_,?_,?_,?_⟩;{exact (hb.setCell aH _).alloc (by simp;omega) _};{simp};{exact (B1.other ay _ _).alloc _};{exact (B2.set 2 _).alloc _};{refine aB.new' aH ?_;apply List.ext_getElem?;intro i;simp only [madeCells,Array.toList_map,Array.toList_range,List.getElem?_map];by_cases hi:i<m+1;{rw [List.getElem?_range hi];cases i <;> simp [Bm.Dq,Nat.mod_one]};{have e:(List.range (m+1))[i]?=none:=(by simp;omega);rw [e];rfl}});case round=>
     obtain ⟨j,hj,rfl,hb',hz',DI,Ia,B3'⟩:=hrel;by_cases hlt:j<m
     · have c0:wr.cell? ⟨w.heap.size,j,none⟩=some (.int .u64 (Bm.word l j)):=DI.cell (by rw [List.getElem?_map,List.getElem?_range ay];simp only [Option.map_some,List.take_of_length_le (Nat.le_of_eq hn.out)]);have c1:wr.cell? ⟨w.heap.size+1,2,none⟩=some (.slice (some ⟨wo.heap.size,0,none⟩) (m+1) (m+1)):=Ia.cell aH;have c2:wr.cell? ⟨wo.heap.size,j,none⟩=some (.int .i64 (Bm.cnt l (64*j))):=B3'.cell (by rw [List.getElem?_map,List.getElem?_range ay];simp);have c3:wr.cell? ⟨wo.heap.size,j+1,none⟩=some (.int .i64 0):=B3'.cell (by rw [List.getElem?_map,List.getElem?_range ay];simp only [Option.map_some,if_neg (show ¬ j+1≤j by omega)]);have f1:=B3'.free (j+1);have ahn:=Bm.Ns 64 (Bm.word l j);have hcnt:=Bm.Dt l (64*j);go_wp2;refine nC 17 aF aF ?_;simp only [List.take_succ_cons,List.take_zero,List.drop_succ_cons,List.drop_zero];(repeat (go_big_quiet_step ((go_at_call 183;exact nX fun W hW=>N7 _ _ (Bm.word_lt l j)))));refine wpQuiet_nil ?_;rintro _ ⟨nq,rfl⟩;go_wp2;have hcj:=Bm.Nt l j 64 aG;go_roundw
       (case rel=>refine ⟨j+1,ay,aN,(bV hb' nq).setCell (by show w.heap.size≤wo.heap.size;omega) _,by simpa using hz',(DI.drewN nq).other ay _ _,(Ia.drewN nq).other ay _ _,?_⟩;have:=(B3'.drewN nq).set (j+1) (.int .i64 ((Bm.cnt l (64*j):Int)+(Bm.pop 64 (Bm.word l j):Int)));rw [XU hlt hcj] at this;exact this);case measure=>simp [intOf];omega
     · obtain rfl:j=m:=ay;go_wp2;go_ret;have e1:l.take k=l:=List.take_of_length_le (Nat.le_of_eq hn.out);have e2:((List.range (j+1)).map fun i=>Value.int .i64 (if i≤j then (Bm.cnt l (64*i):Int) else 0))=(List.range (j+1)).map fun i=>Value.int .i64 (Bm.cnt l (64*i)):=
         List.map_congr_left fun i hi=>by rw [if_pos (by have:=List.mem_range.1 hi;omega)]
       rw [e1] at DI;rw [e2] at B3';have key:∀ w'',(∀ k,w.heap.size≤k→w''.heap[k]?=wr.heap[k]?)→kP w'' (w.heap.size+1) l:=fun w'' hw''=>(by refine ⟨w.heap.size,wo.heap.size,j,by rw [hn.out];exact hml,by rw [hn.out];exact XW,?_,?_,?_⟩;{rw [hn.out];unfold aB at *;rw [hw'' _ ay];exact Ia};{unfold aB at *;rw [hw'' _ ay];exact DI};{unfold aB at *;rw [hw'' _ ay];exact B3'});exact ⟨_,rfl,hb',key wr (fun _ _=>rfl),key⟩
theorem z_ (p:Nat) (n:Int) (w:World) (h:w.cell? ⟨p,0,none⟩=some (.int .i64 n)) :
  Calls prog 184 #[.pointer (some ⟨p,0,none⟩)] w fun e w'=>e=.returned (.int .i64 n)∧w'=w:=by go_enter func184,ntmps184;go_wp2;go_ret;exact ⟨rfl,rfl⟩
theorem XY (p:Nat) (n:Nat) (i:Int) (w:World) (h:w.cell? ⟨p,0,none⟩=some (.int .i64 n)) (hi:i<0∨(n:Int)≤i) :
  Calls prog 225 #[.pointer (some ⟨p,0,none⟩),.int .i64 i] w fun e w'=>e=.returned (.bool false)∧w'=w:=by by_cases h0:i<0;{go_enter func225,ntmps225;go_wp2;go_ret;exact ⟨rfl,rfl⟩};{have hn:¬ i<n:=ay;have hn':(n:Int)≤i:=ay;go_enter func225,ntmps225;(go_wp2_with (go_at_call 184;refine (z_ _ _ _ h).mono ?_;rintro e w' ⟨rfl,rfl⟩));go_ret;exact ⟨rfl,rfl⟩}
theorem XZ (p bw m n i wd:Nat) (w:World) (h:w.cell? ⟨p,0,none⟩=some (.int .i64 n)) (h1:w.cell? ⟨p,1,none⟩=some (.slice (some ⟨bw,0,none⟩) m m)) (hi:i<n) (hm:i / 64<m)
  (h2:w.cell? ⟨bw,i / 64,none⟩=some (.int .u64 wd)) (hn:n≤4096) (hwd:wd<18446744073709551616) :
  Calls prog 225 #[.pointer (some ⟨p,0,none⟩),.int .i64 i] w fun e w'=>e=.returned (.bool (wd.testBit (i % 64)))∧∃ n,w'=w.drewN n:=by
 go_enter func225,ntmps225;go_wp2_with (go_at_call 184;refine (z_ _ _ _ h).mono ?_;rintro e w' ⟨rfl,rfl⟩)
 go_ret;refine ⟨?_,0,rfl⟩;show Ending.returned (.bool _)=_;rw [Bm.WW wd (i % 64) hwd]
theorem X0 (p:Nat) (l:List Bool) (i:Int) (w:World) (h:kP w p l) (hl:l.length≤4096) :
  Calls prog 225 #[.pointer (some ⟨p,0,none⟩),.int .i64 i] w fun e w'=>e=.returned (.bool (decide (0≤i) && l.getD i.toNat false))∧∃ n,w'=w.drewN n:=by obtain ⟨bw,ba,m,h1,h2,h3,h4,h5⟩:=h;by_cases hi:i<0∨(l.length:Int)≤i;{refine (XY p l.length i w (h3.cell aH) hi).mono fun e w' ⟨he,hw⟩=>⟨?_,0,hw⟩;rw [he];rcases hi with hi | hi;{simp;omega};{have:l.getD i.toNat false=false:=(by simp [List.getD,List.getElem?_eq_none (show l.length≤i.toNat by omega)]);rw [this];simp}};{obtain ⟨j,rfl⟩:=Int.eq_ofNat_of_zero_le (show 0≤i by omega);have hj:j<l.length:=ay;have hm:j / 64<m:=ay;refine (XZ p bw m l.length j (Bm.word l (j / 64)) w (h3.cell aH) (h3.cell aH) hj hm (h4.cell (by rw [List.getElem?_map,List.getElem?_range hm];rfl)) hl (Bm.word_lt l _)).mono fun e w' ⟨he,hw⟩=>⟨?_,hw⟩;rw [he,Bm.WH l _ _ ay,show 64*(j / 64)+j % 64=j by omega];simp}
theorem X3 (p n:Nat) (i:Int) (w:World) (h:w.cell? ⟨p,0,none⟩=some (.int .i64 n)) (hi:i≤0∨n=0) :
  Calls prog 138 #[.pointer (some ⟨p,0,none⟩),.int .i64 i] w fun e w'=>e=.returned (.int .i64 0)∧∃ n,w'=w.drewN n:=by
 go_enter func138,ntmps138;go_wp2_with (go_at_call 184;refine (z_ _ _ _ h).mono ?_;rintro e w' ⟨rfl,rfl⟩)
 all_goals
  go_ret
  exact ⟨rfl,0,rfl⟩
theorem X4 (p bw ba m n j ah:Nat) (i:Int) (w:World) (h:w.cell? ⟨p,0,none⟩=some (.int .i64 n)) (h1:w.cell? ⟨p,1,none⟩=some (.slice (some ⟨bw,0,none⟩) m m))
  (h2:w.cell? ⟨p,2,none⟩=some (.slice (some ⟨ba,0,none⟩) (m+1) (m+1))) (hc:(i=j∧j≤n)∨(n=j∧(j:Int)<i)) (h0:0<j) (hj:j / 64=m) (hn:n≤4096)
  (h3:w.cell? ⟨ba,m,none⟩=some (.int .i64 ah)) :
  Calls prog 138 #[.pointer (some ⟨p,0,none⟩),.int .i64 i] w fun e w'=>e=.returned (.int .i64 ah)∧∃ n,w'=w.drewN n:=by
 have hj':(j:Int) / 64=m:=ay;rcases hc with ⟨rfl,hc⟩ | ⟨rfl,hc⟩;all_goals
  go_enter func138,ntmps138
  go_wp2_with (go_at_call 184;refine (z_ _ _ _ h).mono ?_;rintro e w' ⟨rfl,rfl⟩)
  go_ret
  exact ⟨rfl,0,rfl⟩
theorem X5 (p bw ba m n j wd ah:Nat) (i:Int) (w:World) (h:w.cell? ⟨p,0,none⟩=some (.int .i64 n)) (h1:w.cell? ⟨p,1,none⟩=some (.slice (some ⟨bw,0,none⟩) m m))
  (h2:w.cell? ⟨p,2,none⟩=some (.slice (some ⟨ba,0,none⟩) (m+1) (m+1))) (hc:(i=j∧j≤n)∨(n=j∧(j:Int)<i)) (h0:0<j) (hj:j / 64<m) (hn:n≤4096)
  (h3:w.cell? ⟨ba,j / 64,none⟩=some (.int .i64 ah)) (h4:w.cell? ⟨bw,j / 64,none⟩=some (.int .u64 wd)) (hwd:wd<18446744073709551616) (hah:ah≤4096) :
  Calls prog 138 #[.pointer (some ⟨p,0,none⟩),.int .i64 i] w fun e w'=>e=.returned (.int .i64 (ah+Bm.pop (j % 64) wd:Nat))∧∃ n,w'=w.drewN n:=by
 have hlt:(j:Int) / 64<m:=ay;have hlt2:(j:Int) / 64<(m:Int)+1:=ay;have hne:((j:Int) / 64==m)=false:=by rw [beq_eq_false_iff_ne];omega
 obtain ⟨lo,q,hpl,N8⟩:∃ lo q:Nat,q≤64∧(bits BinOp.and IntKind.u64 (wd:Int) (IntKind.u64.wrap (IntKind.u64.wrap (2 ^ (j % 64))-1))=(lo:Int)∧q=Bm.pop (j % 64) wd ∧
   ∀ W,Calls prog 183 #[.int .u64 lo] W fun e w'=>e=.returned (.int .i64 q)∧w'=W):=by
  have h:=Bm.WZ wd (j % 64) hwd ay
  exact ⟨wd % 2 ^ (j % 64),Bm.pop 64 (wd % 2 ^ (j % 64)),Bm.Ns _ _,h.1,h.2,fun W=>N7 _ W (Bm.WX wd (j % 64) hwd)⟩
 have HL:=aj N8;clear N8;rcases hc with ⟨rfl,hc⟩ | ⟨rfl,hc⟩;all_goals
  go_enter func138,ntmps138
  go_wp2_with (go_at_call 184;refine (z_ _ _ _ h).mono ?_;rintro e w' ⟨rfl,rfl⟩)
  go_quiet (fail)
  go_wp2
  rw [HL.out.1]
  go_quiet ((go_at_call 183;exact VO fun W hW=>HL.out.2.2 W))
  go_wp2
  go_ret
  exact ⟨tC (by rw [←HL.out.2.1,Int.natCast_add]),_,World.drewN_drewN _ _ _⟩
theorem N9 (p:Nat) (l:List Bool) (i:Int) (w:World) (h:kP w p l) (hl:l.length≤4096) :
  Calls prog 138 #[.pointer (some ⟨p,0,none⟩),.int .i64 i] w fun e w'=>e=.returned (.int .i64 (Bm.rank l i:Nat))∧∃ n,w'=w.drewN n:=by obtain ⟨bw,ba,m,h1,h2,h3,h4,h5⟩:=h;have c0:w.cell? ⟨p,0,none⟩=some (.int .i64 l.length):=h3.cell aH;have c1:w.cell? ⟨p,1,none⟩=some (.slice (some ⟨bw,0,none⟩) m m):=h3.cell aH;have c2:w.cell? ⟨p,2,none⟩=some (.slice (some ⟨ba,0,none⟩) (m+1) (m+1)):=h3.cell aH;by_cases hi:i≤0∨l.length=0;{refine (X3 p l.length i w c0 hi).mono fun e w' ⟨he,hw⟩=>⟨?_,hw⟩;rw [he];have:Bm.rank l i=0:=(by unfold Bm.rank;rcases hi with hi | hi;{rw [show i.toNat=0 by omega,Bm.Dq]};{have:=Bm.Nr l i.toNat;rw [hi,Bm.Dq] at this;omega});rw [this];rfl};{obtain ⟨j,hc,hr,h0,hjl⟩:∃ j:Nat,((i=j∧j≤l.length)∨(l.length=j∧(j:Int)<i))∧Bm.rank l i=Bm.cnt l j∧0<j∧j≤l.length:=(by by_cases h':i≤l.length;{exact ⟨i.toNat,Or.inl ⟨ay,ay⟩,rfl,ay,ay⟩};{exact ⟨l.length,Or.inr ⟨rfl,ay⟩,Bm.Nq l ay,ay,Nat.le_refl _⟩});rw [hr];have ha:w.cell? ⟨ba,j / 64,none⟩=some (.int .i64 (Bm.cnt l (64*(j / 64)))):=h5.cell (by rw [List.getElem?_map,List.getElem?_range ay];rfl);by_cases hj:j / 64=m;{rw [hj] at ha;refine (X4 p bw ba m l.length j _ i w c0 c1 c2 hc h0 hj hl ha).mono fun e w' ⟨he,hw⟩=>⟨?_,hw⟩;rw [he,show 64*m=j by omega]};{have hj':j / 64<m:=ay;have hb:=Bm.Nr l (64*(j / 64));have hb2:=Bm.Dt l l.length;refine (X5 p bw ba m l.length j (Bm.word l (j / 64)) _ i w c0 c1 c2 hc h0 hj' hl ha (h4.cell (by rw [List.getElem?_map,List.getElem?_range hj'];rfl)) (Bm.word_lt _ _) ay).mono fun e w' ⟨he,hw⟩=>⟨?_,hw⟩;rw [he,Bm.Nt l (j / 64) (j % 64) ay,show 64*(j / 64)+j % 64=j by omega]}}
theorem X6 (f:Nat):∀ x:Nat,x<2 ^ f→Lib.bitLenAux f x=Bn.width x:=by
 induction f with
 | zero=>intro x h;obtain rfl:x=0:=(by simpa using h);rfl
 | succ f ih=>intro x h;unfold Lib.bitLenAux;split;{rename_i h0;subst h0;rfl};{rename_i h0;rw [Nat.pow_succ] at h;rw [ih _ ay,Bn.NU x ay,Nat.add_comm]}
theorem X7 (n:Nat) (h:n<256):Lib.len8 (n:Int)=(Bn.width n:Nat):=by have:=Lib.len8_eq ⟨n,h⟩;rw [show ((⟨n,h⟩:Fin 256).val:Int)=(n:Int) from rfl] at this;rw [this];unfold Lib.bitLen;rw [X6 64 n ay]
theorem X8 (x k:Nat) (h:2 ^ k≤x):Bn.width x=Bn.width (x / 2 ^ k)+k:=by
 induction k with
 | zero=>simp
 | succ k ih=>
  have h2:2 ^ k≤x:=by rw [Nat.pow_succ] at h;omega
  rw [ih h2,Bn.NU (x / 2 ^ k) (Nat.div_pos h2 (Nat.two_pow_pos k)),Nat.div_div_eq_div_mul,Nat.pow_succ];omega
theorem X9 (i:Nat) (p:i<Lib.len8tab.size):((Lib.len8tab[i]'p).toNat:Int)=(Bn.width i:Nat):=by
 have h:i<256:=by rw [Lib.len8tab_size] at p;exact p
 rw [←X7 i h];unfold Lib.len8;rw [Int.toNat_natCast,ByteArray.getElem?_lt' _ _ p];rfl
theorem tL (x:Int) (i k:Nat) (h0:0≤x) (h1:x≤18446744073709551615) (hk:k≤56) (p:i<Lib.len8tab.size) (hi:i=x.toNat / 2 ^ k) (h:2 ^ k≤x.toNat∨k=0) :
  wrap64 ((k:Int)+wrap64 ((Lib.len8tab[i]'p).toNat:Int))=(Bn.width x.toNat:Nat):=by
 have h8:i<256:=by rw [Lib.len8tab_size] at p;exact p
 have hw:=(Bn.width_le i 8).2 (by simpa using h8);have e1:wrap64 ((Bn.width i:Nat):Int)=(Bn.width i:Nat):=IntWalk.wrap64_in _ ⟨ay,ay⟩;rw [X9,e1,IntWalk.wrap64_in _ ⟨ay,ay⟩];rcases h with h | rfl;{rw [X8 x.toNat k h,←hi];omega};{simp at hi;rw [←hi];omega}
set_option maxRecDepth 100000 in
theorem X_ (x:Int) (w:World) (h0:0≤x) (h1:x≤18446744073709551615):Calls prog 177 #[.int .u64 x] w fun e w'=>e=.returned (.int .i64 (Bn.width x.toNat:Nat))∧w=w':=by
 have hs:=Lib.len8tab_size;go_enter func177,ntmps177;go_wp2;all_goals (go_ret;refine ⟨congrArg Ending.returned (congrArg (Value.int IntKind.i64) ?_),rfl⟩)
 {exact tL x _ 56 h0 h1 ay _ (by simp;omega) (by simp;omega)};{exact tL x _ 48 h0 h1 ay _ (by simp;omega) (by simp;omega)};{exact tL x _ 40 h0 h1 ay _ (by simp;omega) (by simp;omega)};{exact tL x _ 32 h0 h1 ay _ (by simp;omega) (by simp;omega)};{exact tL x _ 24 h0 h1 ay _ (by simp;omega) (by simp;omega)};{exact tL x _ 16 h0 h1 ay _ (by simp;omega) (by simp;omega)};{exact tL x _ 8 h0 h1 ay _ (by simp;omega) (by simp;omega)};{have:=tL x _ 0 h0 h1 ay (by rw [hs];omega) rfl (Or.inr rfl);simpa using this}
theorem N_ (x:Int) (w:World) (h0:0≤x) (h1:x≤18446744073709551615):Calls prog 133 #[.int .u64 x] w fun e w'=>e=.returned (.int .i64 (Bn.width x.toNat:Nat))∧w=w':=by
 go_enter func133,ntmps133;go_wp2_with (go_at_call 177;refine (X_ x _ h0 h1).mono ?_;rintro e w' ⟨rfl,rfl⟩)
 go_ret;exact ⟨rfl,rfl⟩
theorem Ya (n:Int) (w:World) (h:n≤9223372036854775807):Calls prog 181 #[.int .i64 n] w fun e w'=>e=.returned (.int .i64 (Bn.width n.toNat:Nat))∧w=w':=by
 by_cases h0:n<0;{have B:=aj (N_ 0 w ay ay);have e:n.toNat=0:=ay;rw [e];go_enter func181,ntmps181;(go_wp2_with (go_at_call 133;refine B.out.mono ?_;rintro e w' ⟨rfl,rfl⟩));go_ret;exact ⟨rfl,rfl⟩}
 · have h0':0≤n:=ay;have B:=aj (N_ n w h0' ay);go_enter func181,ntmps181;(go_wp2_with (go_at_call 133;refine B.out.mono ?_;rintro e w' ⟨rfl,rfl⟩));all_goals
    go_ret
    exact ⟨rfl,rfl⟩
def mb (n w:Int):Bool:=decide (0≤n∧n≤1000∧0≤w∧w≤20)
theorem Yb (n w:Int) (W:World):Calls prog 180 #[.int .i64 n,.int .i64 w] W fun e W'=>e=.returned (.bool (mb n w))∧W=W':=by by_cases h1:0≤n;{by_cases h2:n≤1000;{by_cases h3:0≤w;{go_enter func180,ntmps180;go_wp2;go_ret;exact ⟨iN (by unfold mb;rw [decide_eq_decide];omega),rfl⟩};{go_enter func180,ntmps180;go_wp2;go_ret;exact ⟨iN (by unfold mb;rw [eq_comm,decide_eq_false_iff_not];omega),rfl⟩}};{go_enter func180,ntmps180;go_wp2;go_ret;exact ⟨iN (by unfold mb;rw [eq_comm,decide_eq_false_iff_not];omega),rfl⟩}};{go_enter func180,ntmps180;go_wp2;go_ret;exact ⟨iN (by unfold mb;rw [eq_comm,decide_eq_false_iff_not];omega),rfl⟩}
theorem Yc (n w:Nat) (W:World) (hn:n≤1000) (hw:w≤20):Calls prog 182 #[.int .i64 n,.int .i64 w] W fun e W'=>e=.returned (.int .i64 (Pm.size n w:Nat))∧W=W':=by
 have hm:n*w≤20000:=Nat.le_trans (Nat.mul_le_mul hn hw) ay;obtain ⟨N,hN⟩:=aC (n*w);have hNI:(n:Int)*w=N:=by rw [hN];simp
 rw [←hN] at hm;have HN:=aj hN;clear hN;go_enter func182,ntmps182;go_wp2;go_ret;exact ⟨tC (by unfold Pm.size;rw [←HN.out];omega),rfl⟩
theorem Tryz.inforg5:(prog.info? 5).map (fun i=>(i.zero,i.size,i.bytes))=some (some (.int .u8 0),1,1):=aF
def nG (l:List Int) (w k m:Nat):List Value:=(List.range m).map fun t=>.int .u8 (Bn.mJ (Pm.tK l w) 8 k t)
theorem Ib {l:List Int} {w k m t:Nat} (h:t<m):(nG l w k m)[t]?=some (.int .u8 (Bn.mJ (Pm.tK l w) 8 k t)):=by unfold nG;rw [List.getElem?_map,List.getElem?_range h];rfl
theorem Yd (l:List Int) (w m:Nat):(madeCells #[.int .u8 0] (m*1)).toList=nG l w 0 m:=by apply List.ext_getElem?;intro t;simp only [madeCells,Array.toList_map,Array.toList_range,List.getElem?_map,nG,Bn.XF];by_cases ht:t<m;{rw [List.getElem?_range ay,List.getElem?_range ht];simp [Nat.mod_one]};{have e:(List.range m)[t]?=none:=(by simp;omega);have e':(List.range (m*1))[t]?=none:=(by simp;omega);rw [e,e'];simp only [Option.map_none]}
theorem Ye {l:List Int} {w k m:Nat} (h:k / 8<m):(nG l w k m).set (k / 8) (.int .u8 (Bn.mJ (Pm.tK l w) 8 (k+1) (k / 8):Nat))=nG l w (k+1) m:=by
 apply List.ext_getElem?;intro t;rw [List.getElem?_set];have hl:(nG l w k m).length=m:=by simp [nG]
 by_cases ht:t<m;{rw [Ib ht,Ib ht,hl];split;{rename_i h1;subst h1;rfl};{rename_i h1;rw [Bn.XG _ ay ay]}};{have e:∀ k,(nG l w k m)[t]?=none:=fun k=>(by simp [nG];omega);rw [e,e,if_neg ay]}
theorem Yf (a:Option Addr) (n cap w:Nat) (l:List Int) (W:World) (hn:n=l.length) (hm:Pm.May l w) (hR:gM W a n fun i=>.int .i64 (l.getD i 0)) :
  Calls prog 136 #[.slice a n cap,.int .i64 w] W fun e W'=>∃ b,e=.returned (.tuple #[.slice (some ⟨b,0,none⟩) (Pm.size n w) (Pm.size n w),.int .i64 0])∧Below W.heap.size W W'∧W.heap.size≤b ∧
   aB W' b (nG l w (n*w) (Pm.size n w)) 5:=by
 obtain ⟨_,Ic,hn1,hv⟩:=hm;rw [←hn] at hn1 hv;have hw:w≤20:=ay;have HV:=aj hv;have HN:=aj hn;clear hv hn;obtain ⟨i0,hi,hz0,hz1,hz2⟩:=info_parts Tryz.inforg5;obtain ⟨m,hmm⟩:=aC (Pm.size n w);have hmb:m≤2501:=by rw [hmm];unfold Pm.size;have:n*w≤20000:=Nat.le_trans (Nat.mul_le_mul hn1 hw) ay;omega
 have MB:=aj (fun W'=>Yb n w W');rw [show mb n w=true by simp [mb];omega] at MB;have SZ:=aj (fun W'=>Yc n w W' hn1 hw);rw [←hmm] at SZ ⊢;have HM:=aj hmm;clear hmm;have mk1:∀ W:World,(Instr.makeSlice 71 (.int .i64 (m:Int)) (.int .i64 (m:Int))).run prog W=_:=fun W=>run_make W 71 5 i0 _ underlying71 hi hz0 .i64 .i64 m m ay ay (by rw [hz2];omega) ay;go_enter func136,ntmps136;go_wp2_with (go_at_call 180;refine (MB.out _).mono ?_;rintro e w' ⟨rfl,rfl⟩)
 go_loop [20] (fun s=>∃ i:Nat,i≤n∧s=.int .i64 i) (fun s=>n-(intOf s).toNat)
 case atStart=>exact ⟨0,ay,rfl⟩
 case round=>
  obtain ⟨i,hin,rfl⟩:=hrel;by_cases hlt:i<n
  · obtain ⟨b,off,rfl,hc⟩:=hR.get hlt;have c0:=hc i hlt;have hx:=HV.out i hlt;obtain ⟨x,hx0⟩:=Int.eq_ofNat_of_zero_le hx.1;rw [hx0] at c0 hx;have hxw:x<2 ^ w:=(by simpa using hx.2);have Yg:x<1048576:=Nat.lt_of_lt_of_le hxw (Nat.pow_le_pow_right ay hw);have WD:=aj (fun W'=>Ya (x:Int) W' ay);have hwd:=(Bn.width_le x w).2 hxw;simp only [Int.toNat_natCast] at WD;obtain ⟨wd,Oa⟩:=aC (Bn.width x);rw [←Oa] at WD hwd;clear hc hx hx0 Oa hxw mk1;(go_wp2_with (go_at_call 181;refine (WD.out _).mono ?_;rintro e w' ⟨rfl,rfl⟩));go_round
    (case rel=>exact ⟨i+1,ay,aN⟩);case measure=>simp [intOf];omega
  · (go_wp2_with (go_at_call 182;refine (SZ.out _).mono ?_;rintro e w' ⟨rfl,rfl⟩));clear mk1;go_loopw [40] (fun vB wr=>∃ i:Nat,i≤n∧vB=.int .i64 i∧aB wr W.heap.size (nG l w (i*w) m) 5∧Below W.heap.size W wr∧W.heap.size<wr.heap.size) (fun vB _=>n-(intOf vB).toNat)
    (case atStart=>refine ⟨0,ay,rfl,?_,(Below.refl _ _).alloc aG _,aH⟩;refine aB.new' rfl ?_;rw [Nat.zero_mul];have:=Yd l w m;rwa [Nat.mul_one] at this);case round=>
     obtain ⟨i,hin,rfl,B,hb,hz⟩:=hrel;by_cases hlt:i<n
     · obtain ⟨b,off,rfl,hc⟩:=hR.get hlt;have c0:=aD hb (hc i hlt);have hx:=HV.out i hlt;obtain ⟨x,hx0⟩:=Int.eq_ofNat_of_zero_le hx.1;rw [hx0] at c0;have HX:=aj hx0;have hxw:x<2 ^ w:=(by have h:=hx.2;rw [hx0] at h;simpa using h);have Yg:x<1048576:=Nat.lt_of_lt_of_le hxw (Nat.pow_le_pow_right ay hw);clear hx0 hc hx hxw;obtain ⟨iw,hiw⟩:=aC (i*w);have aho:(i:Int)*w=iw:=(by rw [hiw];simp);have hnw:n*w≤20000:=Nat.le_trans (Nat.mul_le_mul hn1 hw) ay;have Yh:iw+w≤n*w:=(by have:=Nat.mul_le_mul_right w (show i+1≤n by omega);rw [Nat.add_mul] at this;omega);have hmw:n*w≤8*m:=(by rw [HM.out];unfold Pm.size;omega);rw [←hiw] at B;have Ob:=aj hiw;obtain ⟨N,hN⟩:=aC (n*w);rw [←hN] at hnw Yh hmw;clear hiw hN;go_wp2;obtain ⟨wo,rfl⟩:∃ wo:World,wo=wr:=⟨_,rfl⟩;go_loopw [46] (fun Ie wr=>∃ d:Nat,d≤w∧Ie=.int .i64 d∧aB wr W.heap.size (nG l w (iw+d) m) 5∧Below W.heap.size W wr∧W.heap.size<wr.heap.size) (fun Ie _=>w-(intOf Ie).toNat)
       (case atStart=>exact ⟨0,ay,rfl,B,hb,hz⟩);case round=>
        obtain ⟨d,hdw,rfl,B2,hb2,hz2⟩:=hrel;by_cases hdl:d<w
        · have hat:(iw+d) / 8<m:=ay;have hat':((iw:Int)+d) / 8<m:=ay;have c1:=B2.cell (Ib (l:=l) (w:=w) (k:=iw+d) hat);have f1:=B2.free ((iw+d) / 8);have hg:=Bn.XE (Pm.tK l w) 8 (iw+d) ((iw+d) / 8);obtain ⟨g,hg0⟩:=aC (Bn.mJ (Pm.tK l w) 8 (iw+d) ((iw+d) / 8));rw [←hg0] at c1 hg;have HS:=aj (show g ||| (if x.testBit d then 2 ^ ((iw+d) % 8) else 0)=Bn.mJ (Pm.tK l w) 8 (iw+d+1) ((iw+d) / 8) by rw [Bn.XH _ ay,hg0,Ob.out,Pm.XM l w i d hdl,HX.out,Int.toNat_natCast]);have HB:=aj (Pm.XO x d g ((iw+d) % 8) ay (by simpa using hg) ay);clear hg0 hg;go_wp2;go_region
          go_wp2;go_roundw
          (case rel=>refine ⟨d+1,ay,aN,?_,(hb2.setCell aH _).drew,by simpa using hz2⟩;have B3:=(B2.set ((iw+d) / 8) (.int .u8 ((g ||| (if x.testBit d then 2 ^ ((iw+d) % 8) else 0):Nat):Int))).drew;rw [HS.out,Ye hat] at B3;rw [HB.out,HS.out];exact B3);case measure=>simp [intOf];omega
        · obtain rfl:d=w:=ay;go_wp2;go_roundw
          (case rel=>refine ⟨i+1,ay,aN,?_,hb2,hz2⟩;rw [show (i+1)*d=iw+d by rw [Ob.out,Nat.add_mul];omega];exact B2);case measure=>simp [intOf];omega
     · obtain rfl:i=n:=ay;go_wp2;go_ret2
       exact ⟨_,rfl,hb,Nat.le_refl _,B⟩
end Go.Proofs.YtockbaekcbeenaaGreatDoor
