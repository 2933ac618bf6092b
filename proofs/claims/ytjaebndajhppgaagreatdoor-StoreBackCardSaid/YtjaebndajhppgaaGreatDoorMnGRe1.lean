/-GRe1-/
import Derived.Test.YtjaebndajhppgaaGreatDoorMnGRg2
set_option linter.unusedVariables false
set_option maxRecDepth 100000
set_option linter.unusedSimpArgs false
set_option maxHeartbeats 1000000
namespace Go.Proofs.YtjaebndajhppgaaGreatDoor
open Go Go.ChangeShapes Go.WideShapes Go.ChangeAt Go.RowKit
theorem Tryz.info3:(Tryz.prog.info? 3).map (fun i=>(i.zero,i.size,i.bytes))=some (some (.int .i64 0),1,8):=by kernel_rfl
end Go.Proofs.YtjaebndajhppgaaGreatDoor
namespace Go.Proofs.YtjaebndajhppgaaGreatDoor.Bn
open Go Go.ChangeShapes Go.WideShapes Go.ChangeAt Go.RowKit
theorem adG (f:Nat→Bool) (n:Nat):val f (n+1)=val f n ||| (if f n then 2 ^ n else 0):=by apply Nat.eq_of_testBit_eq;intro j;rw [Nat.testBit_or,jh,jh];by_cases hj:j=n;{subst hj;cases hf:f j <;> simp};{have h1:(if f n then 2 ^ n else 0).testBit j=false:=(by split;{rw [Nat.testBit_two_pow];simp;omega};{simp});rw [h1,Bool.or_false];congr 1;rw [decide_eq_decide];omega}
theorem adH (x d:Nat) (h:x<256):bits BinOp.and IntKind.u8 ((x:Int) / 2 ^ d) 1=((gu (x.testBit d):Nat):Int):=by have hd:x / 2 ^ d<256:=Nat.lt_of_le_of_lt (Nat.div_le_self _ _) h;have:=u8_and_nat (x / 2 ^ d) 1 hd (by omega);rw [K8,show (1:Int)=((1:Nat):Int) from rfl,this,K9];rfl
end Go.Proofs.YtjaebndajhppgaaGreatDoor.Bn
namespace Go.Proofs.YtjaebndajhppgaaGreatDoor.Pm
open Go Go.ChangeShapes Go.WideShapes Go.ChangeAt Go.RowKit
open Go.Proofs.YtjaebndajhppgaaGreatDoor.Bn
theorem adI (x k:Nat) (hx:x<256):bits BinOp.and IntKind.u8 ((x:Int) / 2 ^ k) 1=((gu (x.testBit k):Nat):Int):=adH x k hx
theorem adJ (g d:Nat) (b:Bool) (hg:g<1048576) (hd:d<20) :
  bits BinOp.or IntKind.i64 (g:Int) (wrap64 (((gu b:Nat):Int)*2 ^ d))=((g ||| (if b then 2 ^ d else 0):Nat):Int):=by
 have h2:2 ^ d≤524288:=by have:=Nat.pow_le_pow_right (n:=2) (by omega) (show d≤19 by omega);simpa using this
 have e:((gu b:Nat):Int)*2 ^ d=((if b then 2 ^ d else 0:Nat):Int):=by unfold gu;cases b;{simp};{simp only [if_true];rw [Int.natCast_pow];simp}
 have e2:wrap64 ((if b then 2 ^ d else 0:Nat):Int)=((if b then 2 ^ d else 0:Nat):Int):=by
  have h3:(if b then 2 ^ d else 0)≤524288:=by split <;> omega
  exact IntWalk.wrap64_in _ ⟨by omega,by omega⟩
 rw [e,e2,wD _ _ (by omega) (by split <;> omega)]
theorem val_zero (f:Nat→Bool):val f 0=0:=rfl
end Go.Proofs.YtjaebndajhppgaaGreatDoor.Pm
namespace Go.Proofs.YtjaebndajhppgaaGreatDoor
open Go Go.ChangeShapes Go.WideShapes Go.ChangeAt Go.RowKit
def Good (w:Nat) (x:Int):Prop:=0≤x∧x.toNat<2 ^ w
theorem adK (l:List Int) (w:Int):Pm.May l w↔mb l.length w=true∧∀ i,i<l.length→Good w.toNat (l.getD i 0):=by unfold Pm.May mb Good;simp only [decide_eq_true_eq];constructor;{rintro ⟨a,b,c,d⟩;exact ⟨by omega,d⟩};{rintro ⟨a,b⟩;exact ⟨by omega,by omega,by omega,b⟩}
theorem adL {P:Program} {f:FuncId} {args:Array Value} {w:World} {x:Nat} {v:Value}
  (h:∀ W,W=w.drewN x→Calls P f args W fun e w'=>e=.returned v∧∃ k,w'=W.drewN k):Calls P f args (w.drewN x) fun e w''=>e=.returned v∧∃ n,w''=w.drewN n:=
 (h _ rfl).mono fun _ _ ⟨he,k,hm⟩=>⟨he,x+k,by rw [hm,World.drewN_drewN]⟩
theorem Qt (a:Option Addr) (m cap k:Nat) (l:List Nat) (W:World) (hm:m≤4000) (hb:∀ i,l.getD i 0<256) (hR:bW W a m fun i=>.int .u8 (l.getD i 0:Nat)) (hk:k<8*m) :
  Calls Tryz.prog 142 #[.slice a m cap,.int .i64 k] W fun e W'=>e=.returned (.int .i64 (Bn.gu (Pm.jV l k):Nat))∧W'=W:=by
 have Qu:k / 8<m:=by omega
 obtain ⟨b,off,rfl,hc⟩:=hR.get Qu;have c0:=hc (k / 8) Qu;have hx:=hb (k / 8);unfold Pm.jV;obtain ⟨x,hx0⟩:∃ x,x=l.getD (k / 8) 0:=⟨_,rfl⟩;rw [←hx0] at c0 hx ⊢;have HB:=hid (Pm.adI x (k % 8) hx);clear hc hx0;go_enter Tryz.func142,Tryz.ntmps142;go_wp2;go_ret;refine ⟨iQ ?_,rfl⟩;rw [HB.out];have hd:=Bn.D6 (x.testBit (k % 8));exact IntWalk.wrap64_in _ ⟨by omega,by omega⟩
def Noughts (l:List Nat) (k m:Nat):Prop:=∀ j,k≤j→j<8*m→Pm.jV l j=false
theorem adM (a:Option Addr) (m cap k:Nat) (l:List Nat) (W:World) (hm:m≤4000) (hk:k≤40000) (hb:∀ i,l.getD i 0<256) (hR:bW W a m fun i=>.int .u8 (l.getD i 0:Nat)) (r:Bool) (hr:r=true↔Noughts l k m) :
  Calls Tryz.prog 141 #[.slice a m cap,.int .i64 k] W fun e W'=>e=.returned (.bool r)∧W'=W:=by
 have BA:=hid (fun (j:Nat) (hj:j<8*m)=>Qt a m cap j l W hm hb hR hj);have HR:=hid hr;clear hr hR hb;go_enter Tryz.func141,Tryz.ntmps141;go_wp2;go_loop [1] (fun s=>∃ j:Nat,k≤j∧j≤max k (8*m)∧s=.int .i64 j∧Hid (∀ t,k≤t→t<j→Pm.jV l t=false)) (fun s=>8*m-(intOf s).toNat)
 case atStart=>exact ⟨k,Nat.le_refl _,by omega,rfl,fun t h1 h2=>by omega⟩
 case round=>
  obtain ⟨j,hkj,hjm,rfl,HJ⟩:=hrel;by_cases hlt:j<8*m
  · have B:=BA.out j hlt;cases hbit:Pm.jV l j <;> rw [hbit] at B
    · have HB:=hid hbit;have B':=hid B;clear hbit B;(go_wp2_with (go_at_call 142;refine B'.out.mono ?_;rintro e w' ⟨rfl,hw⟩;obtain rfl:=hw.symm));go_round
      (case rel=>refine ⟨j+1,by omega,by omega,by go_num,fun t h1 h2=>?_⟩;by_cases he:t=j;{rw [he];exact HB.out};{exact HJ.out t h1 (by omega)});case measure=>simp [intOf];omega
    · have hrf:r=false:=by
       cases hr:r with
       | false=>rfl
       | true=>have:=HR.out.1 hr j hkj hlt;rw [hbit] at this;cases this
      have B':=hid B;clear hbit B HR;subst hrf;(go_wp2_with (go_at_call 142;refine B'.out.mono ?_;rintro e w' ⟨rfl,hw⟩;obtain rfl:=hw.symm));go_ret;exact ⟨rfl,rfl⟩
  {have hrt:r=true:=HR.out.2 fun t h1 h2=>HJ.out t h1 (by omega);clear HR;subst hrt;go_wp2;go_ret;exact ⟨rfl,rfl⟩}
def Un (l:List Nat) (n w:Int):Prop:=mb n w=true∧l.length=Pm.size n.toNat w.toNat∧Noughts l (n.toNat*w.toNat) l.length
def iE (l:List Nat) (n w i d:Nat):List Value:=
 (List.range n).map fun t=>.int .i64 ((if t<i then Pm.num l w t else if t=i then Bn.val (fun j=>Pm.jV l (i*w+j)) d else 0:Nat):Int)
theorem yN {l:List Nat} {n w i d t:Nat} (h:t<n) :
  (iE l n w i d)[t]?=some (.int .i64 ((if t<i then Pm.num l w t else if t=i then Bn.val (fun j=>Pm.jV l (i*w+j)) d else 0:Nat):Int)):=by unfold iE;rw [List.getElem?_map,List.getElem?_range h];rfl
theorem adN {l:List Nat} {n w i d:Nat} (h:i<n) :
  (iE l n w i d).set i (.int .i64 ((Bn.val (fun j=>Pm.jV l (i*w+j)) (d+1):Nat):Int))=iE l n w i (d+1):=by
 apply List.ext_getElem?;intro t;rw [List.getElem?_set];have hl:(iE l n w i d).length=n:=by simp [iE]
 by_cases ht:t<n;{rw [yN ht,yN ht,hl];split;{rename_i h1;subst h1;rw [if_neg (Nat.lt_irrefl _),if_pos rfl]};{rename_i h1;by_cases h2:t<i;{rw [if_pos h2,if_pos h2]};{rw [if_neg h2,if_neg (by omega),if_neg h2,if_neg (by omega)]}}};{have e:∀ d,(iE l n w i d)[t]?=none:=fun d=>(by simp [iE];omega);rw [e,e,if_neg (by omega)]}
theorem adO {l:List Nat} {n w i:Nat}:iE l n w i w=iE l n w (i+1) 0:=by apply List.ext_getElem?;intro t;by_cases ht:t<n;{rw [yN ht,yN ht];by_cases h1:t<i;{rw [if_pos h1,if_pos (by omega)]};{rw [if_neg h1];by_cases h2:t=i;{subst h2;rw [if_pos rfl,if_pos (by omega)];rfl};{rw [if_neg h2,if_neg (by omega)];split;{rw [Pm.val_zero]};{rfl}}}};{have e:∀ i d,(iE l n w i d)[t]?=none:=fun i d=>(by simp [iE];omega);rw [e,e]}
theorem adP (l:List Nat) (n w:Nat):(madeCells #[.int .i64 0] (n*1)).toList=iE l n w 0 0:=by apply List.ext_getElem?;intro t;simp only [madeCells,Array.toList_map,Array.toList_range,List.getElem?_map,iE];by_cases ht:t<n;{rw [List.getElem?_range (by omega),List.getElem?_range ht];simp [Nat.mod_one,Pm.val_zero]};{have e:(List.range n)[t]?=none:=(by simp;omega);have e':(List.range (n*1))[t]?=none:=(by simp;omega);rw [e,e'];simp only [Option.map_none]}
theorem adQ (a:Option Addr) (m cap n w:Nat) (l:List Nat) (W:World) (hm:m=l.length) (hb:∀ i,l.getD i 0<256) (hu:Un l n w) (hR:bW W a m fun i=>.int .u8 (l.getD i 0:Nat)) :
  Calls Tryz.prog 90 #[.slice a m cap,.int .i64 n,.int .i64 w] W fun e W'=>∃ b,e=.returned (.tuple #[.slice (some ⟨b,0,none⟩) n n,.int .i64 0])∧Below W.heap.size W W'∧W.heap.size≤b ∧
   aj W' b (iE l n w n 0) 3:=by
 obtain ⟨h1,h2,h3⟩:=hu;have hn1:n≤1000∧w≤20:=by unfold mb at h1;simp at h1;omega
 obtain ⟨hn1,hw⟩:=hn1;simp only [Int.toNat_natCast] at h2 h3;rw [←hm] at h2 h3;obtain ⟨i0,hi,hz0,hz1,hz2⟩:=info_parts Tryz.info3;have hnw:n*w≤20000:=Nat.le_trans (Nat.mul_le_mul hn1 hw) (by omega);have hmb:m≤2501:=by rw [h2];unfold Pm.size;omega
 have hm8:n*w≤8*m:=by rw [h2];unfold Pm.size;omega
 have MB:=hid (fun W'=>Lg n w W');rw [h1] at MB;have SZ:=hid (fun W'=>Lh n w W' hn1 hw);rw [←h2] at SZ;obtain ⟨N,hN⟩:∃ N,N=n*w:=⟨_,rfl⟩;have D_:(n:Int)*w=N:=by rw [hN];simp
 have EN:=hid (fun W' (hW':Below W.heap.size W W')=>adM a m cap N l W' (by omega) (by omega) hb (hR.keep hW') true (by rw [hN];exact ⟨fun _=>h3,fun _=>rfl⟩));have sU:=hid hN;rw [←hN] at hm8 hnw;have hb0:=Below.refl W.heap.size W;have BA:=hid (fun (W':World) (hW':Below W.heap.size W W') (k:Nat) (hk:k<8*m)=>Qt a m cap k l W' (by omega) hb (hR.keep hW') hk);have mk1:∀ W:World,(Instr.makeSlice 48 (.int .i64 (n:Int)) (.int .i64 (n:Int))).run Tryz.prog W=_:=fun W=>run_make W 48 3 i0 _ Tryz.underlying48 hi hz0 .i64 .i64 n n (by omega) (by omega) (by rw [hz2];omega) (by omega);clear hN h1 h2 h3 hR hm;go_enter Tryz.func90,Tryz.ntmps90;go_wp2_with (first
  | (go_at_call 139;refine (MB.out _).mono ?_;rintro e w' ⟨rfl,rfl⟩)
  | (go_at_call 140;refine (SZ.out _).mono ?_;rintro e w' ⟨rfl,rfl⟩)
  | (go_at_call 141;refine (EN.out _ hb0).mono ?_;rintro e w' ⟨rfl,hw⟩;obtain rfl:=hw.symm))
 clear mk1;go_loopw [33] (fun Ia wr=>∃ i:Nat,i≤n∧Ia=.int .i64 i∧aj wr W.heap.size (iE l n w i 0) 3∧Below W.heap.size W wr∧W.heap.size<wr.heap.size) (fun Ia _=>n-(intOf Ia).toNat)
 case atStart=>refine ⟨0,by omega,rfl,?_,(Below.refl _ _).alloc (Nat.le_refl _) _,by simp⟩;refine aj.new' rfl ?_;have:=adP l n w;rwa [Nat.mul_one] at this
 case round=>
  obtain ⟨i,hin,rfl,B,hb1,hz⟩:=hrel;by_cases hlt:i<n
  · obtain ⟨iw,hiw⟩:∃ iw,iw=i*w:=⟨_,rfl⟩;have Lp:(i:Int)*w=iw:=(by rw [hiw];simp);have Ea:iw+w≤N:=(by rw [sU.out];have:=Nat.mul_le_mul_right w (show i+1≤n by omega);rw [Nat.add_mul] at this;omega);have qU:=hid hiw;clear hiw;go_wp2;obtain ⟨wo,rfl⟩:∃ wo:World,wo=wr:=⟨_,rfl⟩;go_loopw [37] (fun Ib wr=>∃ d:Nat,d≤w∧Ib=.int .i64 d∧aj wr W.heap.size (iE l n w i d) 3∧Below W.heap.size W wr∧W.heap.size<wr.heap.size) (fun Ib _=>w-(intOf Ib).toNat)
    (case atStart=>exact ⟨0,by omega,rfl,B,hb1,hz⟩);case round=>
     obtain ⟨d,hdw,rfl,B2,hb2,hz2⟩:=hrel;by_cases hdl:d<w
     · have hg0:=yN (l:=l) (n:=n) (w:=w) (i:=i) (d:=d) hlt;rw [if_neg (by omega),if_pos rfl] at hg0;have c1:=B2.cell hg0;have f1:=B2.free i;obtain ⟨g,hg1⟩:∃ g,g=Bn.val (fun j=>Pm.jV l (i*w+j)) d:=⟨_,rfl⟩;have hgl:g<1048576:=(by rw [hg1];exact Nat.lt_of_lt_of_le (Bn.vY _ _) (Nat.pow_le_pow_right (by omega) (show d≤20 by omega)));rw [←hg1] at c1;obtain ⟨bt,hbt⟩:∃ bt,bt=Pm.jV l (iw+d):=⟨_,rfl⟩;have BT:=hid (BA.out (wr) hb2 (iw+d) (by omega));have Qv:=hid (fun (W':World) (hW':Below W.heap.size W W')=>BA.out W' hW' (iw+d) (by omega));rw [←hbt,Int.natCast_add] at Qv;have HO:=hid (Pm.adJ g d bt hgl (by omega));have HS:=hid (show g ||| (if bt then 2 ^ d else 0)=Bn.val (fun j=>Pm.jV l (i*w+j)) (d+1) by rw [Bn.adG,←hg1,hbt,qU.out]);have HB2:=hid hb2;clear BT hg0 hg1 hbt;go_wp2;refine yY 15 (by kernel_rfl) (by kernel_rfl) ?_;simp only [List.take_succ_cons,List.take_zero,List.drop_succ_cons,List.drop_zero];(repeat (go_big_quiet_step ((go_at_call 142;exact lV fun W' hW'=>Qv.out W' (by rw [hW'];exact aX HB2.out _)))));refine wpQuiet_nil ?_;rintro _ ⟨nq,rfl⟩;go_wp2;go_roundw
       (case rel=>refine ⟨d+1,by omega,by go_num,?_,(aX hb2 nq).setCell (by simp) _,by simpa using hz2⟩;have B3:=(B2.drewN nq).set i (.int .i64 ((g ||| (if bt then 2 ^ d else 0):Nat):Int));rw [HS.out,adN hlt] at B3;rw [HO.out,HS.out];exact B3);case measure=>simp [intOf];omega
     · obtain rfl:d=w:=(by omega);go_wp2;go_roundw
       (case rel=>rw [adO] at B2;exact ⟨i+1,by omega,by go_num,B2,hb2,hz2⟩);case measure=>simp [intOf];omega
  · obtain rfl:i=n:=(by omega);go_wp2;go_ret2
    exact ⟨_,rfl,hb1,Nat.le_refl _,B⟩
theorem adR (n:Int) (h:n≤0):Bn.width n.toNat=0:=by rw [show n.toNat=0 by omega];rfl
theorem Qw (n:Int) (w:World) (h:n≤9223372036854775807):Calls Tryz.prog 55 #[.int .i64 n] w fun e w'=>e=.returned (.int .i64 (Bn.width n.toNat:Nat))∧w=w':=by
 have hwl:Bn.width n.toNat≤64:=(Bn.width_le _ 64).2 (by omega);obtain ⟨r,hr⟩:∃ r,r=Bn.width n.toNat:=⟨_,rfl⟩;rw [←hr] at hwl ⊢;have HR:=hid hr;clear hr;go_enter Tryz.func55,Tryz.ntmps55;go_wp2;go_loop [0,3] (fun s0 s3=>∃ (x:Int) (k:Nat),x≤9223372036854775807∧k≤r∧s0=.int .i64 x∧s3=.int .i64 k∧Hid (r=Bn.width x.toNat+k)) (fun s0 _=>(intOf s0).toNat)
 case atStart=>exact ⟨n,0,h,by omega,rfl,rfl,HR.out⟩
 case round=>
  obtain ⟨x,k,hx,hk,rfl,rfl,HX⟩:=hrel;by_cases h0:0<x
  · have hh:=Bn.D5 x.toNat (by omega);have hkr:k<r:=(by have:=HX.out;omega);have HH:=hid (show r=Bn.width (x / 2).toNat+(k+1:Nat) by have:=HX.out;rw [show (x / 2).toNat=x.toNat / 2 by omega];omega);clear hh;go_wp2;go_round
    (case rel=>exact ⟨x / 2,k+1,by omega,by omega,rfl,by go_num,HH⟩);case measure=>simp [intOf];omega
  {have hkr:k=r:=(by have:=HX.out;rw [adR x (by omega)] at this;omega);subst hkr;go_wp2;go_ret;exact ⟨rfl,rfl⟩}
theorem adS (a:Option Addr) (n cap w:Nat) (l:List Int) (W:World) (h:mb n w=true) (hgood:∀ i,i<n→Good w (l.getD i 0)) (hR:bW W a n fun i=>.int .i64 (l.getD i 0)) :
  Calls Tryz.prog 25 #[.slice a n cap,.int .i64 w] W fun e W'=>e=.returned (.bool true)∧W=W':=by
 have hn1:n≤1000∧w≤20:=by unfold mb at h;simp at h;omega
 obtain ⟨hn1,hw⟩:=hn1;have HG:=hid hgood;clear h hgood;go_enter Tryz.func25,Tryz.ntmps25;go_wp2;go_loop [5] (fun s=>∃ i:Nat,i≤n∧s=.int .i64 i) (fun s=>n-(intOf s).toNat)
 case atStart=>exact ⟨0,by omega,rfl⟩
 case round=>
  obtain ⟨i,hik,rfl⟩:=hrel;by_cases hlt:i<n
  · obtain ⟨b,off,rfl,hc⟩:=hR.get hlt;have c0:=hc i hlt;obtain ⟨x,hx⟩:∃ x,x=l.getD i 0:=⟨_,rfl⟩;have hg:=HG.out i hlt;rw [←hx] at c0 hg;clear hc;obtain ⟨h0,h1⟩:=hg;have h20:2 ^ w≤1048576:=Nat.pow_le_pow_right (by omega) hw;have WD:=hid (fun W'=>Qw x W' (by omega));have hwd:=(Bn.width_le x.toNat w).2 h1;obtain ⟨wd,wF⟩:∃ wd,wd=Bn.width x.toNat:=⟨_,rfl⟩;rw [←wF] at WD hwd;clear hx wF h1 h20;(go_wp2_with (go_at_call 55;refine (WD.out _).mono ?_;rintro e w' ⟨rfl,rfl⟩));go_round
    (case rel=>exact ⟨i+1,by omega,by go_num⟩);case measure=>simp [intOf];omega
  {go_wp2;go_ret;exact ⟨rfl,rfl⟩}
theorem adT (a:Option Addr) (n cap w:Nat) (l:List Int) (W:World) (hn:n=l.length) (hm:Pm.May l w) (hR:bW W a n fun i=>.int .i64 (l.getD i 0)) :
  Calls Tryz.prog 27 #[.slice a n cap,.int .i64 w] W fun e W'=>∃ b,e=.returned (.tuple #[.slice (some ⟨b,0,none⟩) (Pm.size n w) (Pm.size n w),.int .i64 0])∧Below W.heap.size W W'∧W.heap.size≤b ∧
   aj W' b (iK l w (n*w) (Pm.size n w)) 5:=by
 have hm0:=(adK l w).1 hm;rw [←hn,Int.toNat_natCast] at hm0;obtain ⟨_,zQ,hn1,hv⟩:=hm;rw [←hn] at hn1 hv;have hw:w≤20:=by omega
 have MAY:=hid (adS a n cap w l W hm0.1 hm0.2 hR);have HV:=hid hv;have HN:=hid hn;clear hv hn hm0;obtain ⟨i0,hi,hz0,hz1,hz2⟩:=info_parts Tryz.inforg5;obtain ⟨m,hmm⟩:∃ m,m=Pm.size n w:=⟨_,rfl⟩;have hnw:n*w≤20000:=Nat.le_trans (Nat.mul_le_mul hn1 hw) (by omega);have hmb:m≤2501:=by rw [hmm];unfold Pm.size;omega
 have Ic:((n:Int)*w+7) / 8=m:=by rw [hmm];unfold Pm.size;omega
 rw [←hmm];have HM:=hid hmm;clear hmm;have mk1:∀ W:World,(Instr.makeSlice 32 (.int .i64 (m:Int)) (.int .i64 (m:Int))).run Tryz.prog W=_:=fun W=>run_make W 32 5 i0 _ Tryz.underlying32 hi hz0 .i64 .i64 m m (by omega) (by omega) (by rw [hz2];omega) (by omega);obtain ⟨N,hN⟩:∃ N,N=n*w:=⟨_,rfl⟩;have D_:(n:Int)*w=N:=by rw [hN];simp
 rw [D_] at Ic;rw [←hN] at hnw;have sU:=hid hN;rw [←hN];clear hN;go_enter Tryz.func27,Tryz.ntmps27;go_wp2_with (go_at_call 25;refine MAY.out.mono ?_;rintro e w' ⟨rfl,rfl⟩)
 clear mk1 Ic;go_loopw [7] (fun s7 wr=>∃ i:Nat,i≤n∧s7=.int .i64 i∧aj wr W.heap.size (iK l w (i*w) m) 5∧Below W.heap.size W wr∧W.heap.size<wr.heap.size) (fun s7 _=>n-(intOf s7).toNat)
 case atStart=>refine ⟨0,by omega,rfl,?_,(Below.refl _ _).alloc (Nat.le_refl _) _,by simp⟩;refine aj.new' rfl ?_;rw [Nat.zero_mul];have:=Li l w m;rwa [Nat.mul_one] at this
 case round=>
  obtain ⟨i,hin,rfl,B,hb,hz⟩:=hrel;by_cases hlt:i<n
  · obtain ⟨b,off,rfl,hc⟩:=hR.get hlt;have cx:=hc i hlt;have hx:=HV.out i hlt;obtain ⟨x,hx0⟩:=Int.eq_ofNat_of_zero_le hx.1;rw [hx0] at cx;have HX:=hid hx0;have hxw:x<2 ^ w:=(by have h:=hx.2;rw [hx0] at h;simpa using h);have Lm:x<1048576:=Nat.lt_of_lt_of_le hxw (Nat.pow_le_pow_right (by omega) hw);have CX:=hid cx;clear hx0 hc hx hxw cx;obtain ⟨iw,hiw⟩:∃ iw,iw=i*w:=⟨_,rfl⟩;have Lp:(i:Int)*w=iw:=(by rw [hiw];simp);have Ea:iw+w≤N:=(by rw [sU.out];have:=Nat.mul_le_mul_right w (show i+1≤n by omega);rw [Nat.add_mul] at this;omega);have hmw:N≤8*m:=(by rw [HM.out,sU.out];unfold Pm.size;omega);rw [←hiw] at B;have qU:=hid hiw;clear hiw;go_wp2;obtain ⟨wo,rfl⟩:∃ wo:World,wo=wr:=⟨_,rfl⟩;go_loopw [8] (fun s8 wr=>∃ d:Nat,d≤w∧s8=.int .i64 d∧aj wr W.heap.size (iK l w (iw+d) m) 5∧Below W.heap.size W wr∧W.heap.size<wr.heap.size) (fun s8 _=>w-(intOf s8).toNat)
    (case atStart=>exact ⟨0,by omega,rfl,B,hb,hz⟩);case round=>
     obtain ⟨d,hdw,rfl,B2,hb2,hz2⟩:=hrel;by_cases hdl:d<w
     · have hat:(iw+d) / 8<m:=(by omega);have hat':((iw:Int)+d) / 8<m:=(by omega);have c1:=B2.cell (zP (l:=l) (w:=w) (k:=iw+d) hat);have f1:=B2.free ((iw+d) / 8);have c2:=ak hb2 CX.out;have lu:(i:Int)<n:=(by omega);have hg:=Bn.DZ (Pm.kE l w) 8 (iw+d) ((iw+d) / 8);obtain ⟨g,hg0⟩:∃ g,g=Bn.gV (Pm.kE l w) 8 (iw+d) ((iw+d) / 8):=⟨_,rfl⟩;rw [←hg0] at c1 hg;have HS:=hid (show g ||| (if x.testBit d then 2 ^ ((iw+d) % 8) else 0)=Bn.gV (Pm.kE l w) 8 (iw+d+1) ((iw+d) / 8) by rw [Bn.K6 _ (by omega),hg0,qU.out,Pm.D7 l w i d hdl,HX.out,Int.toNat_natCast]);have HB:=hid (Pm.Lb x d g ((iw+d) % 8) (by omega) (by simpa using hg) (by omega));clear hg0 hg;go_wp2;refine yY 23 (by kernel_rfl) (by kernel_rfl) ?_;simp only [List.take_succ_cons,List.take_zero,List.drop_succ_cons,List.drop_zero];(repeat (go_big_quiet_step (fail)));refine wpQuiet_nil ?_;rintro _ ⟨nq,rfl⟩;go_wp2;go_roundw
       (case rel=>refine ⟨d+1,by omega,by go_num,?_,(aX hb2 nq).setCell (by simp) _,by simpa using hz2⟩;have B3:=(B2.drewN nq).set ((iw+d) / 8) (.int .u8 ((g ||| (if x.testBit d then 2 ^ ((iw+d) % 8) else 0):Nat):Int));rw [HS.out,Lj hat] at B3;rw [HB.out,HS.out];exact B3);case measure=>simp [intOf];omega
     · obtain rfl:d=w:=(by omega);go_wp2;go_roundw
       (case rel=>refine ⟨i+1,by omega,by go_num,?_,hb2,hz2⟩;rw [show (i+1)*d=iw+d by rw [qU.out,Nat.add_mul];omega];exact B2);case measure=>simp [intOf];omega
  · obtain rfl:i=n:=(by omega);rw [←sU.out] at B;go_wp2;go_ret2
    exact ⟨_,rfl,hb,Nat.le_refl _,B⟩
end Go.Proofs.YtjaebndajhppgaaGreatDoor
