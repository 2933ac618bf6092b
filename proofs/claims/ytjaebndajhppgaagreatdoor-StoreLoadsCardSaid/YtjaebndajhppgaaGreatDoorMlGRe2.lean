/-GRe2-/
import Derived.Test.YtjaebndajhppgaaGreatDoorMlHd1
import Derived.Test.YtjaebndajhppgaaGreatDoorMlGRg2
import Derived.Test.YtjaebndajhppgaaGreatDoorMlGFr
set_option linter.unusedVariables false
set_option maxRecDepth 100000
set_option linter.unusedSimpArgs false
set_option maxHeartbeats 1000000
namespace Go.Proofs.YtjaebndajhppgaaGreatDoor
open Go.Proofs.Tryz
open Go Go.ChangeShapes Go.WideShapes Go.ChangeAt Go.RowKit
end Go.Proofs.YtjaebndajhppgaaGreatDoor
namespace Go.Proofs.YtjaebndajhppgaaGreatDoor.Bn
open Go Go.ChangeShapes Go.WideShapes Go.ChangeAt Go.RowKit
end Go.Proofs.YtjaebndajhppgaaGreatDoor.Bn
namespace Go.Proofs.YtjaebndajhppgaaGreatDoor.Pm
open Go Go.ChangeShapes Go.WideShapes Go.ChangeAt Go.RowKit
open Go.Proofs.YtjaebndajhppgaaGreatDoor.Bn
end Go.Proofs.YtjaebndajhppgaaGreatDoor.Pm
namespace Go.Proofs.YtjaebndajhppgaaGreatDoor
open Go.Proofs.Tryz
open Go Go.ChangeShapes Go.WideShapes Go.ChangeAt Go.RowKit
def Good (w:Nat) (x:Int):Prop:=0≤x∧x.toNat<2 ^ w
theorem acI (l:List Int) (w:Int):Pm.May l w↔mb l.length w=true∧∀ i,i<l.length→Good w.toNat (l.getD i 0):=by unfold Pm.May mb Good;simp only [decide_eq_true_eq];constructor;{rintro ⟨a,b,c,d⟩;exact ⟨aj,d⟩};{rintro ⟨a,b⟩;exact ⟨aj,aj,aj,b⟩}
theorem acJ {P:Program} {f:FuncId} {args:Array Value} {w:World} {x:Nat} {v:Value}
  (h:∀ W,W=w.drewN x→Calls P f args W fun e w'=>e=.returned v∧∃ k,w'=W.drewN k):Calls P f args (w.drewN x) fun e w''=>e=.returned v∧∃ n,w''=w.drewN n:=
 (h _ rfl).mono fun _ _ ⟨he,k,hm⟩=>⟨he,x+k,by rw [hm,World.drewN_drewN]⟩
theorem acK (n:Int) (h:n≤0):Bn.width n.toNat=0:=by rw [show n.toNat=0 by omega];rfl
theorem P6 (n:Int) (w:World) (h:n≤9223372036854775807):Calls prog 55 #[.int .i64 n] w fun e w'=>e=.returned (.int .i64 (Bn.width n.toNat:Nat))∧w=w':=by
 have hwl:Bn.width n.toNat≤64:=(Bn.width_le _ 64).2 aj;obtain ⟨r,hr⟩:=aA (Bn.width n.toNat);rw [←hr] at hwl ⊢;have HR:=hid hr;clear hr;go_enter func55,ntmps55;go_wp2;go_loop [0,3] (fun s0 s3=>∃ (x:Int) (k:Nat),x≤9223372036854775807∧k≤r∧s0=.int .i64 x∧s3=.int .i64 k∧Hid (r=Bn.width x.toNat+k)) (fun s0 _=>(intOf s0).toNat)
 case atStart=>exact ⟨n,0,h,aj,rfl,rfl,HR.out⟩
 case round=>
  obtain ⟨x,k,hx,hk,rfl,rfl,HX⟩:=hrel;by_cases h0:0<x
  · have hh:=Bn.DW x.toNat aj;have hkr:k<r:=(by have:=HX.out;omega);have HH:=hid (show r=Bn.width (x / 2).toNat+(k+1:Nat) by have:=HX.out;rw [show (x / 2).toNat=x.toNat / 2 by omega];omega);clear hh;go_wp2;go_round
    (case rel=>exact ⟨x / 2,k+1,aj,aj,rfl,aN,HH⟩);case measure=>simp [intOf];omega
  {have hkr:k=r:=(by have:=HX.out;rw [acK x aj] at this;omega);subst hkr;go_wp2;go_ret;exact ⟨rfl,rfl⟩}
theorem acL (a:Option Addr) (n cap w:Nat) (l:List Int) (W:World) (h:mb n w=true) (hgood:∀ i,i<n→Good w (l.getD i 0)) (hR:gN W a n fun i=>.int .i64 (l.getD i 0)) :
  Calls prog 25 #[.slice a n cap,.int .i64 w] W fun e W'=>e=.returned (.bool true)∧W=W':=by
 have hn1:n≤1000∧w≤20:=by unfold mb at h;simp at h;omega
 obtain ⟨hn1,hw⟩:=hn1;have HG:=hid hgood;clear h hgood;go_enter func25,ntmps25;go_wp2;go_loop [5] (fun s=>∃ i:Nat,i≤n∧s=.int .i64 i) (fun s=>n-(intOf s).toNat)
 case atStart=>exact ⟨0,aj,rfl⟩
 case round=>
  obtain ⟨i,hik,rfl⟩:=hrel;by_cases hlt:i<n
  · obtain ⟨b,off,rfl,hc⟩:=hR.get hlt;have c0:=hc i hlt;obtain ⟨x,hx⟩:=aA (l.getD i 0);have hg:=HG.out i hlt;rw [←hx] at c0 hg;clear hc;obtain ⟨h0,h1⟩:=hg;have h20:2 ^ w≤1048576:=Nat.pow_le_pow_right aj hw;have WD:=hid (fun W'=>P6 x W' aj);have hwd:=(Bn.width_le x.toNat w).2 h1;obtain ⟨wd,wU⟩:=aA (Bn.width x.toNat);rw [←wU] at WD hwd;clear hx wU h1 h20;(go_wp2_with (go_at_call 55;refine (WD.out _).mono ?_;rintro e w' ⟨rfl,rfl⟩));go_round
    (case rel=>exact ⟨i+1,aj,aN⟩);case measure=>simp [intOf];omega
  {go_wp2;go_ret;exact ⟨rfl,rfl⟩}
theorem acM (a:Option Addr) (n cap w:Nat) (l:List Int) (W:World) (hn:n=l.length) (hm:Pm.May l w) (hR:gN W a n fun i=>.int .i64 (l.getD i 0)) :
  Calls prog 27 #[.slice a n cap,.int .i64 w] W fun e W'=>∃ b,e=.returned (.tuple #[.slice (some ⟨b,0,none⟩) (Pm.size n w) (Pm.size n w),.int .i64 0])∧Below W.heap.size W W'∧W.heap.size≤b ∧
   ak W' b (jv l w (n*w) (Pm.size n w)) 5:=by
 have hm0:=(acI l w).1 hm;rw [←hn,Int.toNat_natCast] at hm0;obtain ⟨_,Aj,hn1,hv⟩:=hm;rw [←hn] at hn1 hv;have hw:w≤20:=aj;have MAY:=hid (acL a n cap w l W hm0.1 hm0.2 hR);have HV:=hid hv;have HN:=hid hn;clear hv hn hm0;obtain ⟨i0,hi,hz0,hz1,hz2⟩:=info_parts Tryz.inforg5;obtain ⟨m,hmm⟩:=aA (Pm.size n w);have hnw:n*w≤20000:=Nat.le_trans (Nat.mul_le_mul hn1 hw) aj;have hmb:m≤2501:=by rw [hmm];unfold Pm.size;omega
 have P7:((n:Int)*w+7) / 8=m:=by rw [hmm];unfold Pm.size;omega
 rw [←hmm];have HM:=hid hmm;clear hmm;have mk1:∀ W:World,(Instr.makeSlice 32 (.int .i64 (m:Int)) (.int .i64 (m:Int))).run prog W=_:=fun W=>run_make W 32 5 i0 _ underlying32 hi hz0 .i64 .i64 m m aj aj (by rw [hz2];omega) aj;obtain ⟨N,hN⟩:=aA (n*w);have KG:(n:Int)*w=N:=by rw [hN];simp
 rw [KG] at P7;rw [←hN] at hnw;have zF:=hid hN;rw [←hN];clear hN;go_enter func27,ntmps27;go_wp2_with (go_at_call 25;refine MAY.out.mono ?_;rintro e w' ⟨rfl,rfl⟩)
 clear mk1 P7;go_loopw [7] (fun s7 wr=>∃ i:Nat,i≤n∧s7=.int .i64 i∧ak wr W.heap.size (jv l w (i*w) m) 5∧Below W.heap.size W wr∧W.heap.size<wr.heap.size) (fun s7 _=>n-(intOf s7).toNat)
 case atStart=>refine ⟨0,aj,rfl,?_,(Below.refl _ _).alloc ay _,aC⟩;refine ak.new' rfl ?_;rw [Nat.zero_mul];have:=KH l w m;rwa [Nat.mul_one] at this
 case round=>
  obtain ⟨i,hin,rfl,B,hb,hz⟩:=hrel;by_cases hlt:i<n
  · obtain ⟨b,off,rfl,hc⟩:=hR.get hlt;have cx:=hc i hlt;have hx:=HV.out i hlt;obtain ⟨x,hx0⟩:=Int.eq_ofNat_of_zero_le hx.1;rw [hx0] at cx;have HX:=hid hx0;have hxw:x<2 ^ w:=(by have h:=hx.2;rw [hx0] at h;simpa using h);have KL:x<1048576:=Nat.lt_of_lt_of_le hxw (Nat.pow_le_pow_right aj hw);have CX:=hid cx;clear hx0 hc hx hxw cx;obtain ⟨iw,hiw⟩:=aA (i*w);have VP:(i:Int)*w=iw:=(by rw [hiw];simp);have KM:iw+w≤N:=(by rw [zF.out];have:=Nat.mul_le_mul_right w (show i+1≤n by omega);rw [Nat.add_mul] at this;omega);have hmw:N≤8*m:=(by rw [HM.out,zF.out];unfold Pm.size;omega);rw [←hiw] at B;have wV:=hid hiw;clear hiw;go_wp2;obtain ⟨wo,rfl⟩:∃ wo:World,wo=wr:=⟨_,rfl⟩;go_loopw [8] (fun s8 wr=>∃ d:Nat,d≤w∧s8=.int .i64 d∧ak wr W.heap.size (jv l w (iw+d) m) 5∧Below W.heap.size W wr∧W.heap.size<wr.heap.size) (fun s8 _=>w-(intOf s8).toNat)
    (case atStart=>exact ⟨0,aj,rfl,B,hb,hz⟩);case round=>
     obtain ⟨d,hdw,rfl,B2,hb2,hz2⟩:=hrel;by_cases hdl:d<w
     · have hat:(iw+d) / 8<m:=aj;have hat':((iw:Int)+d) / 8<m:=aj;have c1:=B2.cell (Ai (l:=l) (w:=w) (k:=iw+d) hat);have f1:=B2.free ((iw+d) / 8);have c2:=aB hb2 CX.out;have nG:(i:Int)<n:=aj;have hg:=Bn.DV (Pm.mP l w) 8 (iw+d) ((iw+d) / 8);obtain ⟨g,hg0⟩:=aA (Bn.jF (Pm.mP l w) 8 (iw+d) ((iw+d) / 8));rw [←hg0] at c1 hg;have HS:=hid (show g ||| (if x.testBit d then 2 ^ ((iw+d) % 8) else 0)=Bn.jF (Pm.mP l w) 8 (iw+d+1) ((iw+d) / 8) by rw [Bn.Kr _ aj,hg0,wV.out,Pm.Ky l w i d hdl,HX.out,Int.toNat_natCast]);have HB:=hid (Pm.Kz x d g ((iw+d) % 8) aj (by simpa using hg) aj);clear hg0 hg;go_wp2;refine CK 23 aD aD ?_;simp only [List.take_succ_cons,List.take_zero,List.drop_succ_cons,List.drop_zero];(repeat (go_big_quiet_step (fail)));refine wpQuiet_nil ?_;rintro _ ⟨nq,rfl⟩;go_wp2;go_roundw
       (case rel=>refine ⟨d+1,aj,aN,?_,(cB hb2 nq).setCell aC _,by simpa using hz2⟩;have B3:=(B2.drewN nq).set ((iw+d) / 8) (.int .u8 ((g ||| (if x.testBit d then 2 ^ ((iw+d) % 8) else 0):Nat):Int));rw [HS.out,KI hat] at B3;rw [HB.out,HS.out];exact B3);case measure=>simp [intOf];omega
     · obtain rfl:d=w:=aj;go_wp2;go_roundw
       (case rel=>refine ⟨i+1,aj,aN,?_,hb2,hz2⟩;rw [show (i+1)*d=iw+d by rw [wV.out,Nat.add_mul];omega];exact B2);case measure=>simp [intOf];omega
  · obtain rfl:i=n:=aj;rw [←zF.out] at B;go_wp2;go_ret2
    exact ⟨_,rfl,hb,Nat.le_refl _,B⟩
end Go.Proofs.YtjaebndajhppgaaGreatDoor
namespace Go.Proofs.YtjaebndajhppgaaGreatDoor
open Go.Proofs.Tryz
open Go.ChangeShapes Go.WideShapes Go.ChangeAt Go.RowKit
theorem acN (a b:List UInt8) (W:World) (ha:a.length≤9223372036854775806) (hb:b.length≤9223372036854775806) :
  Calls prog 71 #[str a,str b] W fun e W'=>e=.returned (.int .i64 (Fr.sh a b:Nat))∧∃ q,W'=W.drewN q:=by
 obtain ⟨hla,hlb⟩:=Fr.Cg a b;go_enter func71,ntmps71;go_wp2;go_loopw [5] (fun s5 wr=>∃ i q:Nat,i≤Fr.sh a b∧s5=.int .i64 i∧wr=W.drewN q) (fun s5 _=>Fr.sh a b-(intOf s5).toNat)
 case atStart=>exact ⟨0,0,aj,rfl,rfl⟩
 case round=>
  obtain ⟨i,q,hi,rfl,rfl⟩:=hrel;by_cases hlt:i<Fr.sh a b
  · obtain ⟨c,h1,h2⟩:=Fr.Gs hlt;have g1:=fun p=>eX a i c h1 p;have g2:=fun p=>eX b i c h2 p;have hia:i<a.length:=aj;have hib:i<b.length:=aj;clear h1 h2;go_wp2;(go_quiet (fail));go_wp2;go_roundw
    (case rel=>exact ⟨i+1,_,aj,aN,rfl⟩);case measure=>simp [intOf];omega
  {have hi':i=Fr.sh a b:=aj;have HI:=hid hi';by_cases hia:i<a.length;{by_cases hib:i<b.length;{obtain ⟨c,h1⟩:∃ c,a[i]?=some c:=⟨_,List.getElem?_eq_getElem hia⟩;obtain ⟨d,h2⟩:∃ c,b[i]?=some c:=⟨_,List.getElem?_eq_getElem hib⟩;have hcd:=Fr.Gt (c:=c) (d:=d) (by rw [←hi'];exact h1) (by rw [←hi'];exact h2);have abV:((c.toNat:Int)==(d.toNat:Int))=false:=beq_eq_false_iff_ne.2 (fun e=>hcd (UInt8.toNat_inj.1 aj));have g1:=fun p=>eX a i c h1 p;have g2:=fun p=>eX b i d h2 p;clear h1 h2 hcd hi';go_wp2;(go_quiet (fail));go_wp2;go_ret;exact ⟨ko (by rw [HI.out]),_,World.drewN_drewN _ _ _⟩};{clear hi';go_wp2;(go_quiet (fail));go_wp2;go_ret;exact ⟨ko (by rw [HI.out]),_,World.drewN_drewN _ _ _⟩}};{clear hi';go_wp2;(go_quiet (fail));go_wp2;go_ret;exact ⟨ko (by rw [HI.out]),_,World.drewN_drewN _ _ _⟩}}
def yV (w:World) (l:List UInt8):Nat:=grownCap w (⟨l.toArray⟩:ByteArray).size 0 5
def yX (w:World) (l:List UInt8):World:=w.drew.alloc (.cells (bytesRow ⟨l.toArray⟩ (yV w l)) 5 ((bytesRow ⟨l.toArray⟩ (yV w l)).size,(bytesRow ⟨l.toArray⟩ (yV w l)).size+1))
theorem P8 (w:World) (l:List UInt8):(convert 9 32 (str l)).run prog w=.ok (.slice (some ⟨w.heap.size,0,none⟩) l.length (yV w l)) (yX w l):=by have:=run_bytes_of_string (P:=prog) w 9 32 5 ⟨l.toArray⟩ underlying9 underlying32 underlying5;rw [this,vE];unfold yX yV;rw [vE]
theorem vK (w:World) (l:List UInt8):Below w.heap.size w (yX w l):=((Below.refl _ _).drew).alloc ay _
theorem P9 {w:World} {b n:Nat} {t:TypeId} {v:Value} {xs:List Value} (h:w.ownsRow b t 1 v n xs) (l:List UInt8):(yX w l).ownsRow b t 1 v n xs:=World.ownsRow.alloc (show w.drew.ownsRow b t 1 v n xs from h) _
theorem P_ (w:World) (l:List UInt8):gN (yX w l) (some ⟨w.heap.size,0,none⟩) l.length fun j=>aS ((Fr.iB l).getD j 0):=by refine Or.inr ⟨_,_,rfl,fun j hj=>?_⟩;rw [Nat.zero_add];show (w.drew.alloc _).cell? ⟨w.drew.heap.size,j,none⟩=_;rw [gB];unfold bytesRow Fr.iB;rw [Array.getElem?_append_left (by simpa using hj)];simp [aS,List.getD,hj]
theorem Qa (l:List UInt8):(List.range l.length).map (fun j=>aS ((Fr.iB l)[j]?.getD 0))=(Fr.iB l).map aS:=by
 refine List.ext_getElem (by simp [Fr.iB]) fun i h1 h2=>?_;have h3:i<(Fr.iB l).length:=by simpa using h2
 simp [h3]
theorem acO (v0:Value) (L:List (List UInt8)) (W:World) (h:lU W v0 L) (hm:Fr.May L) :
  Calls prog 29 #[v0] W fun e W'=>∃ v,e=.returned v∧Below W.heap.size W W'∧W'.ownsRow W.heap.size 5 1 v (Fr.dX L L.length).length ((Fr.dX L L.length).map aS):=by
 obtain ⟨i0,hi,hz0,hz1,hz2⟩:=info_parts Tryz.infofr5;obtain ⟨a,cap,rfl,hc1,hc2,hc3,hR⟩:=h.open;obtain ⟨n,hn⟩:=aA L.length;have rT:n≤300:=by rw [hn];exact hm.1
 have HM:=hid (fun i (hi:i<n)=>(hm.2 i aj).2.1);have HL:=hid (fun k (hk:k≤n)=>Fr.Ch hm k aj);have H0:=hid (show Fr.dX L 0=[n / 256 % 256,n % 256] by rw [hn];rfl);rw [←hn] at hR ⊢;have HR:=hid hR;have hw1:IntKind.u8.wrap ((n:Int) / 256)=((n / 256 % 256:Nat):Int):=by rw [IntKind.wrap_u8'];omega
 have hw2:IntKind.u8.wrap (n:Int)=((n % 256:Nat):Int):=by rw [IntKind.wrap_u8'];omega
 have SH:=hid (fun a b W ha hb=>acN a b W ha hb);clear h hm hc1 hc3 hn;go_enter func29,ntmps29;go_wp2;go_loopw [4,3,5] (fun s4 s3 s5 wr=>∃ i:Nat,i≤n∧s4=.int .i64 i∧Hid (wr.ownsRow W.heap.size 5 1 s3 (Fr.dX L i).length ((Fr.dX L i).map aS))∧Hid (Below W.heap.size W wr)) (fun s4 _ _ _=>n-(intOf s4).toNat)
 case atStart=>refine ⟨0,aj,rfl,?_,((Below.refl _ _).alloc ay _)⟩;rw [H0.out];exact yO W 5 #[.int .u8 ((n:Int) / 256 % 256),.int .u8 ((n:Int) % 256)] 2 rfl (by unfold maxLen;omega) (by simp [aS])
 case round=>
  obtain ⟨i,hin,rfl,OO,HB⟩:=hrel;have iE:=HB.out.size;by_cases hlt:i<n
  · obtain ⟨b,off,rfl,hc⟩:=HR.out.get hlt;have Ct:=hc i hlt;have c1:=aB HB.out Ct;have hxl:=HM.out i hlt;have hbl:=HL.out i aj;have HX:=hid (show Fr.at_ L i=L.getD i [] from rfl);have hks:=Fr.Gu L i;unfold Fr.at_ at hxl;obtain ⟨x,hx⟩:=aA (L.getD i []);rw [←hx] at Ct c1 hxl HX;rw [show Fr.at_ L i=x from HX.out] at hks;rcases Nat.eq_zero_or_pos (i % 4) with h4 | h4
    · have Gw:Int.tmod (i:Int) 4=0:=(by rw [Int.tmod_eq_emod_of_nonneg aj];omega);have HK:=hid (show (0:Nat)=Fr.j_ L i by unfold Fr.j_;rw [if_pos h4]);obtain ⟨wc,hwc⟩:=aA wr;subst hwc;have OC:=OO;have nE:=HB;have hzc:=iE;clear hc hx hks h4;obtain ⟨x2,hx2⟩:=aA (x.drop 0);have ed:(⟨x.toArray⟩:ByteArray).extract 0 x.length=⟨x2.toArray⟩:=(by rw [hx2];exact gQ x 0);have hl2:x2.length+0=x.length:=(by rw [hx2,List.length_drop];omega);have Gx:IntKind.u8.wrap (x.length:Int)=(x.length:Int):=(by rw [IntKind.wrap_u8'];omega);have CV:=fun W=>P8 W x2;have HE:=hid (show Fr.enc L i=[0,x.length]++Fr.iB x2 by unfold Fr.enc;rw [←HK.out,show Fr.at_ L i=x from HX.out,←hx2];rfl);have hxi:(x.length:Int)-0=((x.length:Nat):Int):=aj;have yP:=hid hxi;clear hx2 hxi;(go_wp2_with (at_builtin;refine n_ rfl (.tmp 33) (.tmp 44) 32 rfl W.heap.size 5 i0 _ 1 underlying32 hi hz0 hz1 hz2 rfl _ _ _ rfl (OC.out.alloc _) (some ⟨wc.heap.size,0,none⟩) 2 2 (fun j=>aS ([0,x.length].getD j 0)) rfl ?nil ?row ?one ?b1 ?b2 ?base ?_));(case nil=>exact fun h=>by cases h);(case row=>refine Or.inr ⟨_,_,rfl,fun j hj=>?_⟩;rw [Nat.zero_add,gB];rcases (show j=0∨j=1 by omega) with rfl | rfl;{rfl};{exact congrArg (fun z=>some (Value.int .u8 z)) aC});(case one=>intro j _;rfl);(case b1=>unfold maxLen;omega);(case b2=>omega);(case base=>simp;omega);intro v1 w1 hown hgr;have hb1:Below W.heap.size W w1:=(nE.out.alloc hzc _).grown hgr (by simp;omega) (fun g hg=>(OC.out.lt g hg).1);have hown':w1.ownsRow W.heap.size 5 1 v1 ((Fr.dX L i).length+2) ((Fr.dX L i++[0,x.length]).map aS):=(by rw [List.map_append];exact hown);have O1:=hid hown';have HB1:=hid hb1;have hz1':=hb1.size;have c3:=aB hb1 Ct;clear hown hown' hgr hb1;(go_wp2_with (at_builtin;refine n_ rfl (.tmp 46) (.tmp 53) 32 rfl W.heap.size 5 i0 _ 1 underlying32 hi hz0 hz1 hz2 rfl v1 _ _ rfl (P9 O1.out x2) (some ⟨w1.heap.size,0,none⟩) x2.length _ (fun j=>aS ((Fr.iB x2).getD j 0)) rfl ?nil ?row ?one ?b1 ?b2 ?base ?_));(case nil=>exact fun h=>by cases h);(case row=>exact P_ w1 x2);(case one=>intro j _;rfl);(case b1=>unfold maxLen;omega);(case b2=>omega);(case base=>exact Nat.le_trans hz1' (vK w1 x2).size);intro v2 w2 hown2 kZ;have hb2:Below W.heap.size W w2:=(aG HB1.out (vK w1 x2)).grown kZ (Nat.le_trans hz1' (vK w1 x2).size) (fun g hg=>(O1.out.lt g hg).1);rw [Qa x2] at hown2;have hown3:w2.ownsRow W.heap.size 5 1 v2 ((Fr.dX L i).length+2+x2.length) ((Fr.dX L i++Fr.enc L i).map aS):=(by rw [HE.out];simpa using hown2);have O2:=hid hown3;have HB2:=hid hb2;clear hown2 hown3 kZ hb2;go_wp2;go_roundw
      (case rel=>exact ⟨i+1,aj,aN,Ci (O2.out) (by show _=(Fr.dX L i++Fr.enc L i).length;rw [List.length_append,HE.out,List.length_append];unfold Fr.iB;rw [List.length_map];simp only [List.length_cons,List.length_nil];omega),HB2.out⟩);case measure=>simp [intOf];omega
    · have Gw:Int.tmod (i:Int) 4=((i % 4:Nat):Int):=(by rw [Int.tmod_eq_emod_of_nonneg aj];omega);have OP:(((i % 4:Nat):Int)==0)=false:=beq_eq_false_iff_ne.2 aj;have hi0:0<i:=aj;have c2:=aB HB.out (hc (i-1) aj);have hyl:=HM.out (i-1) aj;unfold Fr.at_ at hyl;have HY:=hid (show Fr.at_ L (i-1)=L.getD (i-1) [] from rfl);obtain ⟨y,hy⟩:=aA (L.getD (i-1) []);rw [←hy] at c2 hyl HY;have SS:=hid (fun W=>SH.out y x W aj aj);have hk0:Fr.j_ L i=Fr.sh y x:=(by unfold Fr.j_;rw [if_neg aj,show Fr.at_ L i=x from HX.out,show Fr.at_ L (i-1)=y from HY.out]);rw [hk0] at hks;obtain ⟨k,hk⟩:=aA (Fr.sh y x);have HK:=hid (show k=Fr.j_ L i by rw [hk0,hk]);rw [←hk] at SS hks;clear hc hx hy hk hk0 h4;go_wp2;(go_quiet (first | (go_at_call 71;exact acJ fun W hW=>SS.out W)));obtain ⟨wc,hq⟩:=aA (wr.drewN nq);rw [←hq];have OC:=hid (show wc.ownsRow W.heap.size 5 1 u3 (Fr.dX L i).length ((Fr.dX L i).map aS) by rw [hq];exact OO.out);have nE:=hid (show Below W.heap.size W wc by rw [hq];exact cB HB.out nq);have hzc:=nE.out.size;have c1:wc.cell? ⟨b,off+i,none⟩=some (str x):=(by rw [hq];exact c1);clear hq c2;obtain ⟨x2,hx2⟩:=aA (x.drop k);have ed:(⟨x.toArray⟩:ByteArray).extract k x.length=⟨x2.toArray⟩:=(by rw [hx2];exact gQ x k);have hl2:x2.length+k=x.length:=(by rw [hx2,List.length_drop];omega);have hwk:IntKind.u8.wrap (k:Int)=(k:Int):=(by rw [IntKind.wrap_u8'];omega);have Gx:IntKind.u8.wrap ((x.length:Int)-k)=(x.length:Int)-k:=(by rw [IntKind.wrap_u8'];omega);have hwn:IntKind.i64.wrap ((x.length:Int)-k)=(x.length:Int)-k:=(by rw [IntKind.wrap_i64];omega);have CV:=fun W=>P8 W x2;have HE:=hid (show Fr.enc L i=[k,x.length-k]++Fr.iB x2 by unfold Fr.enc;rw [←HK.out,show Fr.at_ L i=x from HX.out,←hx2]);have hxi:(x.length:Int)-k=((x.length-k:Nat):Int):=aj;have yP:=hid hxi;clear hx2 hxi;(go_wp2_with (at_builtin;refine n_ rfl (.tmp 33) (.tmp 44) 32 rfl W.heap.size 5 i0 _ 1 underlying32 hi hz0 hz1 hz2 rfl _ _ _ rfl (OC.out.alloc _) (some ⟨wc.heap.size,0,none⟩) 2 2 (fun j=>aS ([k,x.length-k].getD j 0)) rfl ?nil ?row ?one ?b1 ?b2 ?base ?_));(case nil=>exact fun h=>by cases h);(case row=>refine Or.inr ⟨_,_,rfl,fun j hj=>?_⟩;rw [Nat.zero_add,gB];rcases (show j=0∨j=1 by omega) with rfl | rfl;{rfl};{exact congrArg (fun z=>some (Value.int .u8 z)) yP.out});(case one=>intro j _;rfl);(case b1=>unfold maxLen;omega);(case b2=>omega);(case base=>simp;omega);intro v1 w1 hown hgr;have hb1:Below W.heap.size W w1:=(nE.out.alloc hzc _).grown hgr (by simp;omega) (fun g hg=>(OC.out.lt g hg).1);have hown':w1.ownsRow W.heap.size 5 1 v1 ((Fr.dX L i).length+2) ((Fr.dX L i++[k,x.length-k]).map aS):=(by rw [List.map_append];exact hown);have O1:=hid hown';have HB1:=hid hb1;have hz1':=hb1.size;have c3:=aB hb1 Ct;clear hown hown' hgr hb1;(go_wp2_with (at_builtin;refine n_ rfl (.tmp 46) (.tmp 53) 32 rfl W.heap.size 5 i0 _ 1 underlying32 hi hz0 hz1 hz2 rfl v1 _ _ rfl (P9 O1.out x2) (some ⟨w1.heap.size,0,none⟩) x2.length _ (fun j=>aS ((Fr.iB x2).getD j 0)) rfl ?nil ?row ?one ?b1 ?b2 ?base ?_));(case nil=>exact fun h=>by cases h);(case row=>exact P_ w1 x2);(case one=>intro j _;rfl);(case b1=>unfold maxLen;omega);(case b2=>omega);(case base=>exact Nat.le_trans hz1' (vK w1 x2).size);intro v2 w2 hown2 kZ;have hb2:Below W.heap.size W w2:=(aG HB1.out (vK w1 x2)).grown kZ (Nat.le_trans hz1' (vK w1 x2).size) (fun g hg=>(O1.out.lt g hg).1);rw [Qa x2] at hown2;have hown3:w2.ownsRow W.heap.size 5 1 v2 ((Fr.dX L i).length+2+x2.length) ((Fr.dX L i++Fr.enc L i).map aS):=(by rw [HE.out];simpa using hown2);have O2:=hid hown3;have HB2:=hid hb2;clear hown2 hown3 kZ hb2;go_wp2;go_roundw
      (case rel=>exact ⟨i+1,aj,aN,Ci (O2.out) (by show _=(Fr.dX L i++Fr.enc L i).length;rw [List.length_append,HE.out,List.length_append];unfold Fr.iB;rw [List.length_map];simp only [List.length_cons,List.length_nil];omega),HB2.out⟩);case measure=>simp [intOf];omega
  {obtain rfl:i=n:=aj;go_wp2;go_ret;exact ⟨_,rfl,HB.out,OO.out⟩}
end Go.Proofs.YtjaebndajhppgaaGreatDoor
