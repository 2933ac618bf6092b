/-GRe1-/
import Derived.Test.YtjaebndajhppgaaGreatDoorMfHd1
import Derived.Test.YtjaebndajhppgaaGreatDoorMfGRg2
set_option linter.unusedVariables false
set_option maxRecDepth 100000
set_option linter.unusedSimpArgs false
set_option maxHeartbeats 1000000
namespace Go.Proofs.YtjaebndajhppgaaGreatDoor
open Go.Proofs.Tryz
open Go Go.ChangeShapes Go.WideShapes Go.ChangeAt Go.RowKit
theorem Tryz.info3:(prog.info? 3).map (fun i=>(i.zero,i.size,i.bytes))=some (some (.int .i64 0),1,8):=aG
end Go.Proofs.YtjaebndajhppgaaGreatDoor
namespace Go.Proofs.YtjaebndajhppgaaGreatDoor.Bn
open Go Go.ChangeShapes Go.WideShapes Go.ChangeAt Go.RowKit
theorem agb (f:Nat→Bool) (n:Nat):val f (n+1)=val f n ||| (if f n then 2 ^ n else 0):=by apply Nat.eq_of_testBit_eq;intro j;rw [Nat.testBit_or,jc,jc];by_cases hj:j=n;{subst hj;cases hf:f j <;> simp};{have h1:(if f n then 2 ^ n else 0).testBit j=false:=(by split;{rw [Nat.testBit_two_pow];simp;omega};{simp});rw [h1,Bool.or_false];congr 1;rw [decide_eq_decide];omega}
theorem agc (x d:Nat) (h:x<256):bits BinOp.and IntKind.u8 ((x:Int) / 2 ^ d) 1=((gT (x.testBit d):Nat):Int):=by have hd:x / 2 ^ d<256:=Nat.lt_of_le_of_lt (Nat.div_le_self _ _) h;have:=u8_and_nat (x / 2 ^ d) 1 hd ak;rw [OV,show (1:Int)=((1:Nat):Int) from rfl,this,OW];rfl
end Go.Proofs.YtjaebndajhppgaaGreatDoor.Bn
namespace Go.Proofs.YtjaebndajhppgaaGreatDoor.Pm
open Go Go.ChangeShapes Go.WideShapes Go.ChangeAt Go.RowKit
open Go.Proofs.YtjaebndajhppgaaGreatDoor.Bn
theorem Uw (x k:Nat) (hx:x<256):bits BinOp.and IntKind.u8 ((x:Int) / 2 ^ k) 1=((gT (x.testBit k):Nat):Int):=agc x k hx
theorem agd (g d:Nat) (b:Bool) (hg:g<1048576) (hd:d<20) :
  bits BinOp.or IntKind.i64 (g:Int) (wrap64 (((gT b:Nat):Int)*2 ^ d))=((g ||| (if b then 2 ^ d else 0):Nat):Int):=by
 have h2:2 ^ d≤524288:=by have:=Nat.pow_le_pow_right (n:=2) ak (show d≤19 by omega);simpa using this
 have e:((gT b:Nat):Int)*2 ^ d=((if b then 2 ^ d else 0:Nat):Int):=by unfold gT;cases b;{simp};{simp only [if_true];rw [Int.natCast_pow];simp}
 have e2:wrap64 ((if b then 2 ^ d else 0:Nat):Int)=((if b then 2 ^ d else 0:Nat):Int):=by
  have h3:(if b then 2 ^ d else 0)≤524288:=by split <;> omega
  exact IntWalk.wrap64_in _ ⟨ak,ak⟩
 rw [e,e2,zh _ _ ak (by split <;> omega)]
theorem val_zero (f:Nat→Bool):val f 0=0:=rfl
end Go.Proofs.YtjaebndajhppgaaGreatDoor.Pm
namespace Go.Proofs.YtjaebndajhppgaaGreatDoor
open Go.Proofs.Tryz
open Go Go.ChangeShapes Go.WideShapes Go.ChangeAt Go.RowKit
def Good (w:Nat) (x:Int):Prop:=0≤x∧x.toNat<2 ^ w
theorem Ux (l:List Int) (w:Int):Pm.May l w↔mb l.length w=true∧∀ i,i<l.length→Good w.toNat (l.getD i 0):=by unfold Pm.May mb Good;simp only [decide_eq_true_eq];constructor;{rintro ⟨a,b,c,d⟩;exact ⟨ak,d⟩};{rintro ⟨a,b⟩;exact ⟨ak,ak,ak,b⟩}
theorem Uy {P:Program} {f:FuncId} {args:Array Value} {w:World} {x:Nat} {v:Value}
  (h:∀ W,W=w.drewN x→Calls P f args W fun e w'=>e=.returned v∧∃ k,w'=W.drewN k):Calls P f args (w.drewN x) fun e w''=>e=.returned v∧∃ n,w''=w.drewN n:=
 (h _ rfl).mono fun _ _ ⟨he,k,hm⟩=>⟨he,x+k,by rw [hm,World.drewN_drewN]⟩
theorem Uz (a:Option Addr) (m cap k:Nat) (l:List Nat) (W:World) (hm:m≤4000) (hb:∀ i,l.getD i 0<256) (hR:bM W a m fun i=>.int .u8 (l.getD i 0:Nat)) (hk:k<8*m) :
  Calls prog 142 #[.slice a m cap,.int .i64 k] W fun e W'=>e=.returned (.int .i64 (Bn.gT (Pm.gy l k):Nat))∧W'=W:=by have Ba:k / 8<m:=ak;obtain ⟨b,off,rfl,hc⟩:=hR.get Ba;have c0:=hc (k / 8) Ba;have hx:=hb (k / 8);unfold Pm.gy;obtain ⟨x,hx0⟩:=aB (l.getD (k / 8) 0);rw [←hx0] at c0 hx ⊢;have HB:=aj (Pm.Uw x (k % 8) hx);clear hc hx0;go_enter func142,ntmps142;go_wp2;go_ret;refine ⟨jm ?_,rfl⟩;rw [HB.out];have hd:=Bn.Dj (x.testBit (k % 8));exact IntWalk.wrap64_in _ ⟨ak,ak⟩
def Noughts (l:List Nat) (k m:Nat):Prop:=∀ j,k≤j→j<8*m→Pm.gy l j=false
theorem UD (a:Option Addr) (m cap k:Nat) (l:List Nat) (W:World) (hm:m≤4000) (hk:k≤40000) (hb:∀ i,l.getD i 0<256) (hR:bM W a m fun i=>.int .u8 (l.getD i 0:Nat)) (r:Bool) (hr:r=true↔Noughts l k m) :
  Calls prog 141 #[.slice a m cap,.int .i64 k] W fun e W'=>e=.returned (.bool r)∧W'=W:=by
 have BA:=aj (fun (j:Nat) (hj:j<8*m)=>Uz a m cap j l W hm hb hR hj);have HR:=aj hr;clear hr hR hb;go_enter func141,ntmps141;go_wp2;go_loop [1] (fun s=>∃ j:Nat,k≤j∧j≤max k (8*m)∧s=.int .i64 j∧Hid (∀ t,k≤t→t<j→Pm.gy l t=false)) (fun s=>8*m-(intOf s).toNat)
 case atStart=>exact ⟨k,Nat.le_refl _,ak,rfl,fun t h1 h2=>ak⟩
 case round=>
  obtain ⟨j,hkj,hjm,rfl,HJ⟩:=hrel;by_cases hlt:j<8*m
  · have B:=BA.out j hlt;cases hbit:Pm.gy l j <;> rw [hbit] at B
    · have HB:=aj hbit;have B':=aj B;clear hbit B;(go_wp2_with (go_at_call 142;refine B'.out.mono ?_;rintro e w' ⟨rfl,hw⟩;obtain rfl:=hw.symm));go_round
      (case rel=>refine ⟨j+1,ak,ak,aN,fun t h1 h2=>?_⟩;by_cases he:t=j;{rw [he];exact HB.out};{exact HJ.out t h1 ak});case measure=>simp [intOf];omega
    · have hrf:r=false:=by
       cases hr:r with
       | false=>rfl
       | true=>have:=HR.out.1 hr j hkj hlt;rw [hbit] at this;cases this
      have B':=aj B;clear hbit B HR;subst hrf;(go_wp2_with (go_at_call 142;refine B'.out.mono ?_;rintro e w' ⟨rfl,hw⟩;obtain rfl:=hw.symm));go_ret;exact ⟨rfl,rfl⟩
  {have hrt:r=true:=HR.out.2 fun t h1 h2=>HJ.out t h1 ak;clear HR;subst hrt;go_wp2;go_ret;exact ⟨rfl,rfl⟩}
def Un (l:List Nat) (n w:Int):Prop:=mb n w=true∧l.length=Pm.size n.toNat w.toNat∧Noughts l (n.toNat*w.toNat) l.length
def iI (l:List Nat) (n w i d:Nat):List Value:=
 (List.range n).map fun t=>.int .i64 ((if t<i then Pm.num l w t else if t=i then Bn.val (fun j=>Pm.gy l (i*w+j)) d else 0:Nat):Int)
theorem xL {l:List Nat} {n w i d t:Nat} (h:t<n) :
  (iI l n w i d)[t]?=some (.int .i64 ((if t<i then Pm.num l w t else if t=i then Bn.val (fun j=>Pm.gy l (i*w+j)) d else 0:Nat):Int)):=by unfold iI;rw [List.getElem?_map,List.getElem?_range h];rfl
theorem agf {l:List Nat} {n w i d:Nat} (h:i<n) :
  (iI l n w i d).set i (.int .i64 ((Bn.val (fun j=>Pm.gy l (i*w+j)) (d+1):Nat):Int))=iI l n w i (d+1):=by
 apply List.ext_getElem?;intro t;rw [List.getElem?_set];have hl:(iI l n w i d).length=n:=by simp [iI]
 by_cases ht:t<n;{rw [xL ht,xL ht,hl];split;{rename_i h1;subst h1;rw [if_neg (Nat.lt_irrefl _),if_pos rfl]};{rename_i h1;by_cases h2:t<i;{rw [if_pos h2,if_pos h2]};{rw [if_neg h2,if_neg ak,if_neg h2,if_neg ak]}}};{have e:∀ d,(iI l n w i d)[t]?=none:=fun d=>(by simp [iI];omega);rw [e,e,if_neg ak]}
theorem agh {l:List Nat} {n w i:Nat}:iI l n w i w=iI l n w (i+1) 0:=by apply List.ext_getElem?;intro t;by_cases ht:t<n;{rw [xL ht,xL ht];by_cases h1:t<i;{rw [if_pos h1,if_pos ak]};{rw [if_neg h1];by_cases h2:t=i;{subst h2;rw [if_pos rfl,if_pos ak];rfl};{rw [if_neg h2,if_neg ak];split;{rw [Pm.val_zero]};{rfl}}}};{have e:∀ i d,(iI l n w i d)[t]?=none:=fun i d=>(by simp [iI];omega);rw [e,e]}
theorem agi (l:List Nat) (n w:Nat):(madeCells #[.int .i64 0] (n*1)).toList=iI l n w 0 0:=by apply List.ext_getElem?;intro t;simp only [madeCells,Array.toList_map,Array.toList_range,List.getElem?_map,iI];by_cases ht:t<n;{rw [List.getElem?_range ak,List.getElem?_range ht];simp [Nat.mod_one,Pm.val_zero]};{have e:(List.range n)[t]?=none:=(by simp;omega);have e':(List.range (n*1))[t]?=none:=(by simp;omega);rw [e,e'];simp only [Option.map_none]}
theorem UF (a:Option Addr) (m cap n w:Nat) (l:List Nat) (W:World) (hm:m=l.length) (hb:∀ i,l.getD i 0<256) (hu:Un l n w) (hR:bM W a m fun i=>.int .u8 (l.getD i 0:Nat)) :
  Calls prog 90 #[.slice a m cap,.int .i64 n,.int .i64 w] W fun e W'=>∃ b,e=.returned (.tuple #[.slice (some ⟨b,0,none⟩) n n,.int .i64 0])∧Below W.heap.size W W'∧W.heap.size≤b ∧
   aC W' b (iI l n w n 0) 3:=by
 obtain ⟨h1,h2,h3⟩:=hu;have hn1:n≤1000∧w≤20:=by unfold mb at h1;simp at h1;omega
 obtain ⟨hn1,hw⟩:=hn1;simp only [Int.toNat_natCast] at h2 h3;rw [←hm] at h2 h3;obtain ⟨i0,hi,hz0,hz1,hz2⟩:=info_parts Tryz.info3;have hnw:n*w≤20000:=Nat.le_trans (Nat.mul_le_mul hn1 hw) ak;have hmb:m≤2501:=by rw [h2];unfold Pm.size;omega
 have E8:n*w≤8*m:=by rw [h2];unfold Pm.size;omega
 have MB:=aj (fun W'=>Dp n w W');rw [h1] at MB;have SZ:=aj (fun W'=>GI n w W' hn1 hw);rw [←h2] at SZ;obtain ⟨N,hN⟩:=aB (n*w);have rY:(n:Int)*w=N:=by rw [hN];simp
 have EN:=aj (fun W' (hW':Below W.heap.size W W')=>UD a m cap N l W' ak ak hb (hR.keep hW') true (by rw [hN];exact ⟨fun _=>h3,fun _=>rfl⟩));have lI:=aj hN;rw [←hN] at E8 hnw;have hb0:=Below.refl W.heap.size W;have BA:=aj (fun (W':World) (hW':Below W.heap.size W W') (k:Nat) (hk:k<8*m)=>Uz a m cap k l W' ak hb (hR.keep hW') hk);have mk1:∀ W:World,(Instr.makeSlice 48 (.int .i64 (n:Int)) (.int .i64 (n:Int))).run prog W=_:=fun W=>run_make W 48 3 i0 _ underlying48 hi hz0 .i64 .i64 n n ak ak (by rw [hz2];omega) ak;clear hN h1 h2 h3 hR hm;go_enter func90,ntmps90;go_wp2_with (first
  | (go_at_call 139;refine (MB.out _).mono ?_;rintro e w' ⟨rfl,rfl⟩)
  | (go_at_call 140;refine (SZ.out _).mono ?_;rintro e w' ⟨rfl,rfl⟩)
  | (go_at_call 141;refine (EN.out _ hb0).mono ?_;rintro e w' ⟨rfl,hw⟩;obtain rfl:=hw.symm))
 clear mk1;go_loopw [33] (fun Kw wr=>∃ i:Nat,i≤n∧Kw=.int .i64 i∧aC wr W.heap.size (iI l n w i 0) 3∧Below W.heap.size W wr∧W.heap.size<wr.heap.size) (fun Kw _=>n-(intOf Kw).toNat)
 case atStart=>refine ⟨0,ak,rfl,?_,(Below.refl _ _).alloc aF _,aI⟩;refine aC.new' rfl ?_;have:=agi l n w;rwa [Nat.mul_one] at this
 case round=>
  obtain ⟨i,hin,rfl,B,hb1,hz⟩:=hrel;by_cases hlt:i<n
  · obtain ⟨iw,hiw⟩:=aB (i*w);have GJ:(i:Int)*w=iw:=(by rw [hiw];simp);have Dq:iw+w≤N:=(by rw [lI.out];have:=Nat.mul_le_mul_right w (show i+1≤n by omega);rw [Nat.add_mul] at this;omega);have qx:=aj hiw;clear hiw;go_wp2;obtain ⟨wo,rfl⟩:∃ wo:World,wo=wr:=⟨_,rfl⟩;go_loopw [37] (fun Ky wr=>∃ d:Nat,d≤w∧Ky=.int .i64 d∧aC wr W.heap.size (iI l n w i d) 3∧Below W.heap.size W wr∧W.heap.size<wr.heap.size) (fun Ky _=>w-(intOf Ky).toNat)
    (case atStart=>exact ⟨0,ak,rfl,B,hb1,hz⟩);case round=>
     obtain ⟨d,hdw,rfl,B2,hb2,hz2⟩:=hrel;by_cases hdl:d<w
     · have hg0:=xL (l:=l) (n:=n) (w:=w) (i:=i) (d:=d) hlt;rw [if_neg ak,if_pos rfl] at hg0;have c1:=B2.cell hg0;have f1:=B2.free i;obtain ⟨g,hg1⟩:=aB (Bn.val (fun j=>Pm.gy l (i*w+j)) d);have hgl:g<1048576:=(by rw [hg1];exact Nat.lt_of_lt_of_le (Bn.wz _ _) (Nat.pow_le_pow_right ak (show d≤20 by omega)));rw [←hg1] at c1;obtain ⟨bt,hbt⟩:=aB (Pm.gy l (iw+d));have BT:=aj (BA.out (wr) hb2 (iw+d) ak);have UG:=aj (fun (W':World) (hW':Below W.heap.size W W')=>BA.out W' hW' (iw+d) ak);rw [←hbt,Int.natCast_add] at UG;have HO:=aj (Pm.agd g d bt hgl ak);have HS:=aj (show g ||| (if bt then 2 ^ d else 0)=Bn.val (fun j=>Pm.gy l (i*w+j)) (d+1) by rw [Bn.agb,←hg1,hbt,qx.out]);have HB2:=aj hb2;clear BT hg0 hg1 hbt;go_wp2;refine Cb 15 aG aG ?_;simp only [List.take_succ_cons,List.take_zero,List.drop_succ_cons,List.drop_zero];(repeat (go_big_quiet_step ((go_at_call 142;exact mO fun W' hW'=>UG.out W' (by rw [hW'];exact bn HB2.out _)))));refine wpQuiet_nil ?_;rintro _ ⟨nq,rfl⟩;go_wp2;go_roundw
       (case rel=>refine ⟨d+1,ak,aN,?_,(bn hb2 nq).setCell aI _,by simpa using hz2⟩;have B3:=(B2.drewN nq).set i (.int .i64 ((g ||| (if bt then 2 ^ d else 0):Nat):Int));rw [HS.out,agf hlt] at B3;rw [HO.out,HS.out];exact B3);case measure=>simp [intOf];omega
     · obtain rfl:d=w:=ak;go_wp2;go_roundw
       (case rel=>rw [agh] at B2;exact ⟨i+1,ak,aN,B2,hb2,hz2⟩);case measure=>simp [intOf];omega
  · obtain rfl:i=n:=ak;go_wp2;go_ret2
    exact ⟨_,rfl,hb1,Nat.le_refl _,B⟩
theorem agj (a:Option Addr) (m cap:Nat) (n w:Int) (W:World) (h:mb n w=false) :
  Calls prog 90 #[.slice a m cap,.int .i64 n,.int .i64 w] W fun e W'=>e=.returned (.tuple #[.slice none 0 0,.int .i64 1])∧W'=W:=by
 have MB:=aj (fun W'=>Dp n w W');rw [h] at MB;clear h;go_enter func90,ntmps90;go_wp2_with (go_at_call 139;refine (MB.out _).mono ?_;rintro e w' ⟨rfl,rfl⟩)
 go_ret2
 exact ⟨rfl,rfl⟩
theorem agk (a:Option Addr) (m cap n w:Nat) (l:List Nat) (W:World) (hm:m=l.length) (sW:m≤maxLen) (hb:∀ i,l.getD i 0<256) (h1:mb n w=true) (hu:¬ Un l n w) (hR:bM W a m fun i=>.int .u8 (l.getD i 0:Nat)) :
  Calls prog 90 #[.slice a m cap,.int .i64 n,.int .i64 w] W fun e W'=>e=.returned (.tuple #[.slice none 0 0,.int .i64 2])∧W'=W:=by
 have hn1:n≤1000∧w≤20:=by unfold mb at h1;simp at h1;omega
 obtain ⟨hn1,hw⟩:=hn1;have MB:=aj (fun W'=>Dp n w W');rw [h1] at MB;have SZ:=aj (fun W'=>GI n w W' hn1 hw);have hnw:n*w≤20000:=Nat.le_trans (Nat.mul_le_mul hn1 hw) ak;have hsz:Pm.size n w≤2501:=by unfold Pm.size;omega
 by_cases hs:m=Pm.size n w
 · have hno:¬ Noughts l (n*w) m:=fun h=>hu ⟨h1,by simp only [Int.toNat_natCast];rw [←hm];exact hs,by simp only [Int.toNat_natCast];rw [←hm];exact h⟩;rw [←hs] at SZ hsz;obtain ⟨N,hN⟩:=aB (n*w);have rY:(n:Int)*w=N:=(by rw [hN];simp);have EN:=aj (UD a m cap N l W ak ak hb hR false (by rw [hN];exact ⟨fun h=>(by cases h),fun h=>absurd h hno⟩));rw [←hN] at hnw;clear hN h1 hs hno hR hm hu sW;go_enter func90,ntmps90;go_wp2_with (first
    | (go_at_call 139;refine (MB.out _).mono ?_;rintro e w' ⟨rfl,rfl⟩)
    | (go_at_call 140;refine (SZ.out _).mono ?_;rintro e w' ⟨rfl,rfl⟩)
    | (go_at_call 141;refine EN.out.mono ?_;rintro e w' ⟨rfl,hw⟩;obtain rfl:=hw.symm))
   go_ret2
   exact ⟨rfl,rfl⟩
 · obtain ⟨q,hq⟩:=aB (Pm.size n w);rw [←hq] at SZ hs hsz;have hbe:((m:Int)==(q:Int))=false:=(by rw [beq_eq_false_iff_ne];omega);have hbn:((m:Int) != (q:Int))=true:=(by rw [bne_iff_ne];omega);unfold maxLen at sW;clear hq h1 hs hR hm hu;go_enter func90,ntmps90;go_wp2_with (first
    | (go_at_call 139;refine (MB.out _).mono ?_;rintro e w' ⟨rfl,rfl⟩)
    | (go_at_call 140;refine (SZ.out _).mono ?_;rintro e w' ⟨rfl,rfl⟩))
   go_ret2
   exact ⟨rfl,rfl⟩
theorem agl (n:Int) (h:n≤0):Bn.width n.toNat=0:=by rw [show n.toNat=0 by omega];rfl
theorem Bb (n:Int) (w:World) (h:n≤9223372036854775807):Calls prog 55 #[.int .i64 n] w fun e w'=>e=.returned (.int .i64 (Bn.width n.toNat:Nat))∧w=w':=by
 have hwl:Bn.width n.toNat≤64:=(Bn.width_le _ 64).2 ak;obtain ⟨r,hr⟩:=aB (Bn.width n.toNat);rw [←hr] at hwl ⊢;have HR:=aj hr;clear hr;go_enter func55,ntmps55;go_wp2;go_loop [0,3] (fun s0 s3=>∃ (x:Int) (k:Nat),x≤9223372036854775807∧k≤r∧s0=.int .i64 x∧s3=.int .i64 k∧Hid (r=Bn.width x.toNat+k)) (fun s0 _=>(intOf s0).toNat)
 case atStart=>exact ⟨n,0,h,ak,rfl,rfl,HR.out⟩
 case round=>
  obtain ⟨x,k,hx,hk,rfl,rfl,HX⟩:=hrel;by_cases h0:0<x
  · have hh:=Bn.GA x.toNat ak;have hkr:k<r:=(by have:=HX.out;omega);have HH:=aj (show r=Bn.width (x / 2).toNat+(k+1:Nat) by have:=HX.out;rw [show (x / 2).toNat=x.toNat / 2 by omega];omega);clear hh;go_wp2;go_round
    (case rel=>exact ⟨x / 2,k+1,ak,ak,rfl,aN,HH⟩);case measure=>simp [intOf];omega
  {have hkr:k=r:=(by have:=HX.out;rw [agl x ak] at this;omega);subst hkr;go_wp2;go_ret;exact ⟨rfl,rfl⟩}
theorem ai7 {n:Nat} {p:Nat→Prop} (h:¬ ∀ i,i<n→p i):∃ k,k<n∧¬ p k∧∀ j,j<k→p j:=by
 induction n with
 | zero=>exact absurd (fun i hi=>absurd hi (Nat.not_lt_zero i)) h
 | succ n ih=>by_cases hn:∀ i,i<n→p i;{refine ⟨n,ak,fun hp=>h fun i hi=>?_,hn⟩;by_cases hin:i<n;{exact hn i hin};{obtain rfl:i=n:=ak;exact hp}};{obtain ⟨k,h1,h2,h3⟩:=ih hn;exact ⟨k,ak,h2,h3⟩}
theorem agm (a:Option Addr) (n cap:Nat) (w:Int) (W:World) (hn:n≤9223372036854775807) (h:mb n w=false):Calls prog 25 #[.slice a n cap,.int .i64 w] W fun e W'=>e=.returned (.bool false)∧W=W':=by
 have h1:w<0∨(0≤w∧20<w)∨(0≤w∧w≤20∧1000<n):=by unfold mb at h;simp at h;omega
 clear h;rcases h1 with h1 | ⟨h1,h2⟩ | ⟨h1,h2,h3⟩;all_goals
  go_enter func25,ntmps25
  go_wp2
  go_ret
  exact ⟨rfl,rfl⟩
theorem agn (a:Option Addr) (n cap w:Nat) (l:List Int) (W:World) (h:mb n w=true) (hb:¬ ∀ i,i<n→Good w (l.getD i 0)) (hmax:∀ i,i<n→l.getD i 0≤9223372036854775807) (hR:bM W a n fun i=>.int .i64 (l.getD i 0)) :
  Calls prog 25 #[.slice a n cap,.int .i64 w] W fun e W'=>e=.returned (.bool false)∧W=W':=by
 obtain ⟨k,hk,hbad,hgood⟩:=ai7 hb;have hn1:n≤1000∧w≤20:=by unfold mb at h;simp at h;omega
 obtain ⟨hn1,hw⟩:=hn1;have HG:=aj hgood;have HX:=aj hmax;clear h hb hgood hmax;go_enter func25,ntmps25;go_wp2;go_loop [5] (fun s=>∃ i:Nat,i≤k∧s=.int .i64 i) (fun s=>k-(intOf s).toNat)
 case atStart=>exact ⟨0,ak,rfl⟩
 case round=>
  obtain ⟨i,hik,rfl⟩:=hrel;have hlt:i<n:=ak;obtain ⟨b,off,rfl,hc⟩:=hR.get hlt;have c0:=hc i hlt;have hm:=HX.out i hlt;obtain ⟨x,hx⟩:=aB (l.getD i 0);rw [←hx] at c0 hm;clear hc;by_cases hlk:i<k
  · have hg:=HG.out i hlk;rw [←hx] at hg;obtain ⟨h0,h1⟩:=hg;have WD:=aj (fun W'=>Bb x W' hm);have hwd:=(Bn.width_le x.toNat w).2 h1;obtain ⟨wd,nS⟩:=aB (Bn.width x.toNat);rw [←nS] at WD hwd;clear hx nS h1;(go_wp2_with (go_at_call 55;refine (WD.out _).mono ?_;rintro e w' ⟨rfl,rfl⟩));go_round
    (case rel=>exact ⟨i+1,ak,aN⟩);case measure=>simp [intOf];omega
  · obtain rfl:i=k:=ak;rw [←hx] at hbad;by_cases h0:x<0;{clear hx hbad;go_wp2;go_ret;exact ⟨rfl,rfl⟩}
    · have WD:=aj (fun W'=>Bb x W' hm);have hwd:w<Bn.width x.toNat:=by rcases Nat.lt_or_ge w (Bn.width x.toNat) with h2 | h2;{exact h2};{exact absurd ⟨ak,(Bn.width_le _ _).1 h2⟩ hbad}
      obtain ⟨wd,nS⟩:=aB (Bn.width x.toNat);rw [←nS] at WD hwd;clear hx nS hbad;(go_wp2_with (go_at_call 55;refine (WD.out _).mono ?_;rintro e w' ⟨rfl,rfl⟩));go_ret;exact ⟨rfl,rfl⟩
theorem UH (a:Option Addr) (n cap w:Nat) (l:List Int) (W:World) (h:mb n w=true) (hgood:∀ i,i<n→Good w (l.getD i 0)) (hR:bM W a n fun i=>.int .i64 (l.getD i 0)) :
  Calls prog 25 #[.slice a n cap,.int .i64 w] W fun e W'=>e=.returned (.bool true)∧W=W':=by
 have hn1:n≤1000∧w≤20:=by unfold mb at h;simp at h;omega
 obtain ⟨hn1,hw⟩:=hn1;have HG:=aj hgood;clear h hgood;go_enter func25,ntmps25;go_wp2;go_loop [5] (fun s=>∃ i:Nat,i≤n∧s=.int .i64 i) (fun s=>n-(intOf s).toNat)
 case atStart=>exact ⟨0,ak,rfl⟩
 case round=>
  obtain ⟨i,hik,rfl⟩:=hrel;by_cases hlt:i<n
  · obtain ⟨b,off,rfl,hc⟩:=hR.get hlt;have c0:=hc i hlt;obtain ⟨x,hx⟩:=aB (l.getD i 0);have hg:=HG.out i hlt;rw [←hx] at c0 hg;clear hc;obtain ⟨h0,h1⟩:=hg;have h20:2 ^ w≤1048576:=Nat.pow_le_pow_right ak hw;have WD:=aj (fun W'=>Bb x W' ak);have hwd:=(Bn.width_le x.toNat w).2 h1;obtain ⟨wd,nS⟩:=aB (Bn.width x.toNat);rw [←nS] at WD hwd;clear hx nS h1 h20;(go_wp2_with (go_at_call 55;refine (WD.out _).mono ?_;rintro e w' ⟨rfl,rfl⟩));go_round
    (case rel=>exact ⟨i+1,ak,aN⟩);case measure=>simp [intOf];omega
  {go_wp2;go_ret;exact ⟨rfl,rfl⟩}
theorem agp (a:Option Addr) (n cap:Nat) (w:Int) (l:List Int) (W:World) (r:Bool) (hn:n=l.length) (hn2:n≤9223372036854775807) (hr:r=true↔Pm.May l w) (hmax:∀ i,i<n→l.getD i 0≤9223372036854775807) (hR:bM W a n fun i=>.int .i64 (l.getD i 0)) :
  Calls prog 25 #[.slice a n cap,.int .i64 w] W fun e W'=>e=.returned (.bool r)∧W=W':=by
 rw [Ux,←hn] at hr;cases h:mb n w with
 | false=>
  have:r=false:=by cases r with
   | false=>rfl
   | true=>have:=(hr.1 rfl).1;rw [h] at this;cases this
  rw [this];exact agm a n cap w W hn2 h
 | true=>
  have hw:0≤w:=by unfold mb at h;simp at h;omega
  obtain ⟨v,rfl⟩:=Int.eq_ofNat_of_zero_le hw;by_cases hg:∀ i,i<n→Good v (l.getD i 0);{have:r=true:=hr.2 ⟨h,hg⟩;rw [this];exact UH a n cap v l W h hg hR}
  · have:r=false:=by cases r with
     | false=>rfl
     | true=>exact absurd (hr.1 rfl).2 hg
    rw [this];exact agn a n cap v l W h hg hmax hR
theorem Kz (a:Option Addr) (n cap w:Nat) (l:List Int) (W:World) (hn:n=l.length) (hm:Pm.May l w) (hR:bM W a n fun i=>.int .i64 (l.getD i 0)) :
  Calls prog 27 #[.slice a n cap,.int .i64 w] W fun e W'=>∃ b,e=.returned (.tuple #[.slice (some ⟨b,0,none⟩) (Pm.size n w) (Pm.size n w),.int .i64 0])∧Below W.heap.size W W'∧W.heap.size≤b ∧
   aC W' b (iC l w (n*w) (Pm.size n w)) 5:=by
 have hm0:=(Ux l w).1 hm;rw [←hn,Int.toNat_natCast] at hm0;obtain ⟨_,uz,hn1,hv⟩:=hm;rw [←hn] at hn1 hv;have hw:w≤20:=ak;have MAY:=aj (UH a n cap w l W hm0.1 hm0.2 hR);have HV:=aj hv;have HN:=aj hn;clear hv hn hm0;obtain ⟨i0,hi,hz0,hz1,hz2⟩:=info_parts Tryz.inforg5;obtain ⟨m,hmm⟩:=aB (Pm.size n w);have hnw:n*w≤20000:=Nat.le_trans (Nat.mul_le_mul hn1 hw) ak;have hmb:m≤2501:=by rw [hmm];unfold Pm.size;omega
 have tK:((n:Int)*w+7) / 8=m:=by rw [hmm];unfold Pm.size;omega
 rw [←hmm];have HM:=aj hmm;clear hmm;have mk1:∀ W:World,(Instr.makeSlice 32 (.int .i64 (m:Int)) (.int .i64 (m:Int))).run prog W=_:=fun W=>run_make W 32 5 i0 _ underlying32 hi hz0 .i64 .i64 m m ak ak (by rw [hz2];omega) ak;obtain ⟨N,hN⟩:=aB (n*w);have rY:(n:Int)*w=N:=by rw [hN];simp
 rw [rY] at tK;rw [←hN] at hnw;have lI:=aj hN;rw [←hN];clear hN;go_enter func27,ntmps27;go_wp2_with (go_at_call 25;refine MAY.out.mono ?_;rintro e w' ⟨rfl,rfl⟩)
 clear mk1 tK;go_loopw [7] (fun s7 wr=>∃ i:Nat,i≤n∧s7=.int .i64 i∧aC wr W.heap.size (iC l w (i*w) m) 5∧Below W.heap.size W wr∧W.heap.size<wr.heap.size) (fun s7 _=>n-(intOf s7).toNat)
 case atStart=>refine ⟨0,ak,rfl,?_,(Below.refl _ _).alloc aF _,aI⟩;refine aC.new' rfl ?_;rw [Nat.zero_mul];have:=Pf l w m;rwa [Nat.mul_one] at this
 case round=>
  obtain ⟨i,hin,rfl,B,hb,hz⟩:=hrel;by_cases hlt:i<n
  · obtain ⟨b,off,rfl,hc⟩:=hR.get hlt;have cx:=hc i hlt;have hx:=HV.out i hlt;obtain ⟨x,hx0⟩:=Int.eq_ofNat_of_zero_le hx.1;rw [hx0] at cx;have HX:=aj hx0;have hxw:x<2 ^ w:=(by have h:=hx.2;rw [hx0] at h;simpa using h);have Pj:x<1048576:=Nat.lt_of_lt_of_le hxw (Nat.pow_le_pow_right ak hw);have CX:=aj cx;clear hx0 hc hx hxw cx;obtain ⟨iw,hiw⟩:=aB (i*w);have GJ:(i:Int)*w=iw:=(by rw [hiw];simp);have Dq:iw+w≤N:=(by rw [lI.out];have:=Nat.mul_le_mul_right w (show i+1≤n by omega);rw [Nat.add_mul] at this;omega);have hmw:N≤8*m:=(by rw [HM.out,lI.out];unfold Pm.size;omega);rw [←hiw] at B;have qx:=aj hiw;clear hiw;go_wp2;obtain ⟨wo,rfl⟩:∃ wo:World,wo=wr:=⟨_,rfl⟩;go_loopw [8] (fun s8 wr=>∃ d:Nat,d≤w∧s8=.int .i64 d∧aC wr W.heap.size (iC l w (iw+d) m) 5∧Below W.heap.size W wr∧W.heap.size<wr.heap.size) (fun s8 _=>w-(intOf s8).toNat)
    (case atStart=>exact ⟨0,ak,rfl,B,hb,hz⟩);case round=>
     obtain ⟨d,hdw,rfl,B2,hb2,hz2⟩:=hrel;by_cases hdl:d<w
     · have hat:(iw+d) / 8<m:=ak;have hat':((iw:Int)+d) / 8<m:=ak;have c1:=B2.cell (zn (l:=l) (w:=w) (k:=iw+d) hat);have f1:=B2.free ((iw+d) / 8);have c2:=aD hb2 CX.out;have lS:(i:Int)<n:=ak;have hg:=Bn.ze (Pm.gU l w) 8 (iw+d) ((iw+d) / 8);obtain ⟨g,hg0⟩:=aB (Bn.fJ (Pm.gU l w) 8 (iw+d) ((iw+d) / 8));rw [←hg0] at c1 hg;have HS:=aj (show g ||| (if x.testBit d then 2 ^ ((iw+d) % 8) else 0)=Bn.fJ (Pm.gU l w) 8 (iw+d+1) ((iw+d) / 8) by rw [Bn.OT _ ak,hg0,qx.out,Pm.GD l w i d hdl,HX.out,Int.toNat_natCast]);have HB:=aj (Pm.OZ x d g ((iw+d) % 8) ak (by simpa using hg) ak);clear hg0 hg;go_wp2;refine Cb 23 aG aG ?_;simp only [List.take_succ_cons,List.take_zero,List.drop_succ_cons,List.drop_zero];(repeat (go_big_quiet_step (fail)));refine wpQuiet_nil ?_;rintro _ ⟨nq,rfl⟩;go_wp2;go_roundw
       (case rel=>refine ⟨d+1,ak,aN,?_,(bn hb2 nq).setCell aI _,by simpa using hz2⟩;have B3:=(B2.drewN nq).set ((iw+d) / 8) (.int .u8 ((g ||| (if x.testBit d then 2 ^ ((iw+d) % 8) else 0):Nat):Int));rw [HS.out,Pg hat] at B3;rw [HB.out,HS.out];exact B3);case measure=>simp [intOf];omega
     · obtain rfl:d=w:=ak;go_wp2;go_roundw
       (case rel=>refine ⟨i+1,ak,aN,?_,hb2,hz2⟩;rw [show (i+1)*d=iw+d by rw [qx.out,Nat.add_mul];omega];exact B2);case measure=>simp [intOf];omega
  · obtain rfl:i=n:=ak;rw [←lI.out] at B;go_wp2;go_ret2
    exact ⟨_,rfl,hb,Nat.le_refl _,B⟩
end Go.Proofs.YtjaebndajhppgaaGreatDoor
