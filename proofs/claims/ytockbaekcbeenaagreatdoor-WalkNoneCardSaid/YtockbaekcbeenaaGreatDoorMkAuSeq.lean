/-AuSeq-/
import Derived.Test.YtockbaekcbeenaaGreatDoorMkHd0
import Derived.Test.YtockbaekcbeenaaGreatDoorMkQPath
import Derived.Test.YtockbaekcbeenaaGreatDoorMkGTm3
import Derived.Test.YtockbaekcbeenaaGreatDoorMkGAu2
set_option linter.unusedVariables false
set_option linter.unusedSimpArgs false
set_option maxRecDepth 100000
set_option maxHeartbeats 8000000
namespace Go.Proofs.YtockbaekcbeenaaGreatDoor
open Go.Proofs.Tryz
open Go.ChangeShapes Go.WideShapes Go.ChangeAt Go.RowKit
open Au
theorem afd (k:Int) (w:World):Calls prog 70 #[.int .i64 k] w fun e w'=>e=.returned (.int .i64 (Pt.gZ k))∧w'=w:=by
 rcases (show k=1∨k=2∨k=3∨k=4∨k=5∨k=6∨k=7∨k=8∨(k≠1∧k≠2∧k≠3∧k≠4∧k≠5∧k≠6∧k≠7∧k≠8) by omega) with h | h | h | h | h | h | h | h | h;all_goals (try subst h)
 all_goals (try (
  go_enter func70,ntmps70
  go_wp2
  go_ret
  exact ⟨rfl,rfl⟩))
 obtain ⟨h1,h2,h3,h4,h5,h6,h7,h8⟩:=h;have e:Pt.gZ k = -1:=by unfold Pt.gZ;rw [if_neg ay,if_neg ay,if_neg ay]
 have b1:(k==1)=false:=beq_eq_false_iff_ne.2 h1;have b2:(k==2)=false:=beq_eq_false_iff_ne.2 h2;have b3:(k==3)=false:=beq_eq_false_iff_ne.2 h3;have b4:(k==4)=false:=beq_eq_false_iff_ne.2 h4;have b5:(k==5)=false:=beq_eq_false_iff_ne.2 h5;have b6:(k==6)=false:=beq_eq_false_iff_ne.2 h6;have b7:(k==7)=false:=beq_eq_false_iff_ne.2 h7;have b8:(k==8)=false:=beq_eq_false_iff_ne.2 h8;rw [e];clear h1 h2 h3 h4 h5 h6 h7 h8 e;go_enter func70,ntmps70;go_wp2;go_ret;exact ⟨rfl,rfl⟩
theorem afe:∀ (x:Pt) (d:Nat),x.wf d=true→d≤5∧x.size<2 ^ (6-d):=by
 intro x;induction x using Pt.ind with
 | h k t L K ih=>
  intro d h;rw [oV] at h;simp only [Bool.and_eq_true,decide_eq_true_eq] at h;obtain ⟨⟨⟨h1,h2⟩,_⟩,h4⟩:=h;have h5:=(Pt.vI _ _).1 h4;refine ⟨h1,?_⟩;rw [size_mk];have hk:K.length≤2:=by unfold Pt.gZ at h2;split at h2 <;> (try split at h2) <;> (try split at h2) <;> omega
  have hp:(2:Nat) ^ (6-d)=2*2 ^ (6-(d+1)):=by rw [show 6-d=(6-(d+1))+1 by omega,Nat.pow_succ,Nat.mul_comm]
  have hp1:1≤(2:Nat) ^ (6-(d+1)):=Nat.one_le_two_pow;match K,hk,ih,h5 with
  | [],_,_,_=>simp only [Pt.sizes];omega
  | [a],_,ih,h5=>have:=(ih a aH (d+1) (h5 a aH)).2;simp only [Pt.sizes];omega
  | [a,b],_,ih,h5=>have:=(ih a aH (d+1) (h5 a aH)).2;have:=(ih b aH (d+1) (h5 b aH)).2;simp only [Pt.sizes];omega
theorem aff {x:Pt} {d:Nat} (h:x.wf d=true):x.size<64:=by have h1:=afe x d h;have:(2:Nat) ^ (6-d)≤2 ^ 6:=Nat.pow_le_pow_right ay ay;omega
def kE (x:Pt) (d:Nat):Int:=if x.wf d then (x.size:Nat) else -1
theorem afg (x:Pt):(decide (1≤kE x 0) && decide (kE x 0≤30))=x.may:=by have:=Pt.size_pos x;unfold kE Pt.may;cases x.wf 0;{rfl};{simp only [if_true,Bool.true_and];rw [decide_eq_true (show (1:Int)≤((x.size:Nat):Int) by omega),Bool.true_and,Bool.eq_iff_iff,decide_eq_true_iff,decide_eq_true_iff];omega}
theorem afh (k:Int) (t:T) (L:List T) (K:List Pt) (d i:Nat) (h:i<K.length) (hno:(K.getD i default).wf (d+1)=false):(Pt.mk k t L K).wf d=false:=by rw [oV,Bool.eq_false_iff];intro hy;simp only [Bool.and_eq_true] at hy;have:=(Pt.vI _ _).1 hy.2 (K.getD i default) (by simp [List.getD,h]);rw [this] at hno;cases hno
theorem LJ (k:Int) (t:T) (L:List T) (K:List Pt) (d:Nat) (h1:d≤5) (h2:(K.length:Int)=Pt.gZ k) (h3:Pt.txt k t L=true) (h4:∀ j,j<K.length→(K.getD j default).wf (d+1)=true):(Pt.mk k t L K).wf d=true:=by rw [oV];simp only [Bool.and_eq_true,decide_eq_true_eq];refine ⟨⟨⟨h1,h2⟩,h3⟩,(Pt.vI _ _).2 fun x hx=>?_⟩;obtain ⟨j,hj,rfl⟩:=List.getElem_of_mem hx;have:=h4 j hj;simpa [List.getD,hj] using this
end Go.Proofs.YtockbaekcbeenaaGreatDoor
namespace Go.Proofs.YtockbaekcbeenaaGreatDoor
open Go.Proofs.Tryz
open Go.ChangeShapes Go.WideShapes Go.ChangeAt Go.RowKit
open Au
def nT (B:Nat) (w:World) (p:Nat) (r:Rx):Prop:=∃ lb cl nb cn bH nx last,cK B (fun _=>False) w p lb cl nb cn bH (⟨false,false,[]⟩::r.bR) nx last∧nx.length=1+r.n∧(∀ i j,(nx.getD i 0).testBit j=r.kN i j)∧(∀ i,nx.getD i 0<2 ^ 32)∧Set last r.bZ∧1+r.n≤32∧(∀ l∈r.bR,l.texts.length≤300)
theorem nT.keep {B:Nat} {w w':World} {p:Nat} {r:Rx} (h:nT B w p r) (hb:Below w.heap.size w w'):nT B w' p r:=by obtain ⟨lb,cl,nb,cn,bH,nx,last,h1,h2⟩:=h;exact ⟨lb,cl,nb,cn,bH,nx,last,h1.keep hb,h2⟩
def ones (w:List Stp):Prop:=∀ i (h:i<w.length),w[i].texts.length=1
end Go.Proofs.YtockbaekcbeenaaGreatDoor
namespace Go.Proofs.YtockbaekcbeenaaGreatDoor
open Go.Proofs.Tryz
open Go.ChangeShapes Go.WideShapes Go.ChangeAt Go.RowKit
open Au
def qW (x:Pt):Prop:=∀ (W0 w:World) (v u:Value) (bk:Bool) (Y:Nat→Prop) (p lb cl nb cn:Nat) (bH:List Value) (ls:List Lb) (nx:List Nat) (last:Nat),
 fT W0 v u x→Below W0.heap.size W0 w→cK W0.heap.size Y w p lb cl nb cn bH ls nx last→(∀ k,Y k→k<w.heap.size)→nx.length=ls.length→ls.length+(x.rx bk).n≤32→(∀ j,nx.getD j 0<2 ^ 32) →
  Calls prog 84 #[.pointer (some ⟨p,0,none⟩),pv x v u,.bool bk] w (Ao W0.heap.size Y w p lb nb ls nx last (x.rx bk))
theorem Cv {B:Nat} {Y Z:Nat→Prop} {w w1 w3:World} {p lb nb b1:Nat} {ls':List Lb} {nx':List Nat} {last:Nat} {x0 x1 x2:Value} (hR:aB w3 b1 [x0,x1,x2] 165) (hb1:Z b1) (hw:Below w.heap.size w w1) (hs:w1.heap.size≤b1∨w.heap.size≤b1) (hYY:∀ k,Y k→Z k) (post:bT B Z w1 p lb nb ls' nx' last w3) (F L e:Value) :
  aB (((w3.setCell ⟨b1,0,none⟩ F).setCell ⟨b1,1,none⟩ L).setCell ⟨b1,2,none⟩ e) b1 [F,L,e] 165∧bT B Y w p lb nb ls' nx' last (((w3.setCell ⟨b1,0,none⟩ F).setCell ⟨b1,1,none⟩ L).setCell ⟨b1,2,none⟩ e):=by refine ⟨((hR.set 0 F).set 1 L).set 2 e,?_⟩;have h1:=hw.size;have hs':w.heap.size≤b1:=ay;have h2:bT B Z w p lb nb ls' nx' last w3:=bT.from hw post (fun _ h=>h);exact bT.from (Below.refl _ _) (((h2.set hb1 hs' 0 F).set hb1 hs' 1 L).set hb1 hs' 2 e) hYY
theorem afi {X:Nat→Prop} {w:World} {t:T} {ty:TypeId} (hX:∀ k,X k→k<w.heap.size):jU X (w.alloc (.cells #[aA t] ty)) (fun W=>iA W (.slice (some ⟨w.heap.size,0,none⟩) 1 1) [t]):=fun w'' hw=>by
 have h1:aB (w.alloc (.cells #[aA t] ty)) w.heap.size [aA t] ty:=aB.new w _ _;have h2:aB w'' w.heap.size [aA t] ty:=by unfold aB at *;rw [hw w.heap.size aH (fun h=>by have:=hX _ h;omega)];exact h1
 refine dQ.blk (f:=aA) (d:=[]) (l:=[t]) h2 rfl (fun i hi=>?_) 1 aG (by unfold maxLen;omega);obtain rfl:i=0:=by simp at hi;omega
 rfl
theorem afj {B:Nat} {Y:Nat→Prop} {w:World} {p lb cl nb cn:Nat} {bH:List Value} {ls:List Lb} {nx:List Nat} {last:Nat} (h:cK B Y w p lb cl nb cn bH ls nx last) (hY:∀ k,Y k→k<w.heap.size):∀ k,mO p lb nb Y k→k<w.heap.size:=fun k e=>by have h2:=(dS h.fP).2.1;have h3:=(dS h.eY).2.1;have h4:=h.blk.lt;rcases e with e | e | e | e;{omega};{omega};{omega};{exact hY k e}
theorem TA (t:T):qW (.mk 1 t [] []):=by
 intro W0 w v u bk Y p lb cl nb cn bH ls nx last hP hB h hY hn h32 hx;have hrx:(Pt.mk 1 t [] []).rx bk=.leaf ⟨bk,false,[t]⟩:=by rw [Pt.rx];rfl
 rw [hrx] at h32 ⊢;rw [Rx.D6] at h32;obtain ⟨_,_,qX,_,ak,ni,_,_,_,_,hgi,_⟩:=hP.open;obtain ⟨ta,tc,hfi,_⟩:=qX.open;subst hfi;rw [hgi];unfold pv;simp only [Pt.kind,Pt.text,Pt.kids,Pt.texts,List.length_nil];obtain ⟨w1,hw1⟩:=aC ((w.alloc (.cells #[.int .i64 1,aA t,.slice ta 0 tc,.slice ak 0 ni] 26)).alloc (.cells #[.int .u32 0,.int .u32 0,.bool false] 165));have hz1:w1.heap.size=w.heap.size+2:=by rw [hw1];simp
 have hb1:Below w.heap.size w w1:=by rw [hw1];exact ((Below.refl _ _).alloc aG _).alloc aH _
 have hX:aB w1 w.heap.size [.int .i64 1,aA t,.slice ta 0 tc,.slice ak 0 ni] 26:=by rw [hw1];exact (aB.new w _ _).alloc _
 have hR:aB w1 (w.heap.size+1) [.int .u32 0,.int .u32 0,.bool false] 165:=by rw [hw1];exact aB.new' aH rfl
 have h1:=((h.more (Z:=fun k=>Y k∨k=w.heap.size+1) (fun k e=>e.elim Or.inl (fun e=>Or.inr ay))).keep hb1);have qd:∀ k,(Y k∨k=w.heap.size+1)→k<w1.heap.size:=fun k e=>by rcases e with e | e;(have:=hY k e;omega);omega
 have hb2:Below w1.heap.size w1 (w1.alloc (.cells #[aA t] 9)):=(Below.refl _ _).alloc aG _;have C:=Zk (l:=⟨bk,false,[t]⟩) (some ⟨w1.heap.size,0,none⟩) 1 1 (h1.keep hb2) (fun k e=>Nat.lt_of_lt_of_le (qd k e) hb2.size) (afi (ty:=9) (afj h1 qd)) ay ay (by have:=hB.size;have:=hb1.size;simp;omega);have C:=aj C;have HC:=aj fun w3 (post:bT W0.heap.size (fun k=>Y k∨k=w.heap.size+1) (w1.alloc (.cells #[aA t] 9)) p lb nb (ls++[⟨bk,false,[t]⟩]) (nx++[0]) last w3)=>bT.from hb2 post (fun _ h=>h);obtain ⟨c0,c1,c2,c3⟩:=lg hX;have HB1:=aj hb1;have H1:=aj h1;have HR:=aj hR;have HN:=aj hn;have HX:=aj hx;have HZ:=aj hz1;clear hz1 hb1 hX h1 hR qd hb2 h hY hn hx hP hB qX hgi hrx;unfold Pb bN at C;go_enter func84,ntmps84;go_upto_region 1 with fail
 rw [←hw1];clear hw1;go_wp2_with (go_at_call 114;refine C.out.mono ?_;rintro e w3 ⟨rfl,hp⟩;have HP:=aj (HC.out w3 hp);have hbl:=bT.blk H1.out HP.out (Or.inr rfl) HR.out;have r0:=hbl.cell (i:=0) rfl;have r1:=hbl.cell (i:=1) rfl;have r2:=hbl.cell (i:=2) rfl;have s0:=hbl.free 0;have s1:=hbl.free 1;have s2:=hbl.free 2;have pE:=aj hbl;clear hbl hp)
 have hz1:=HZ.out;obtain ⟨e1,e2⟩:=Cv (Y:=Y) pE.out (Or.inr rfl) HB1.out (Or.inr ay) (fun k e=>Or.inl e) HP.out (.int .u32 ((2 ^ ls.length:Nat))) (.int .u32 ((2 ^ ls.length:Nat))) (.bool false);refine bodyPost_ret (xZ (s:=6) rfl e1 results84) rfl ⟨2 ^ ls.length,2 ^ ls.length,nx++[0],rfl,Set.one ay,Set.one ay,Zr _ HN.out HX.out,e2⟩
theorem bT.follow {B:Nat} {Y:Nat→Prop} {w w4 w5:World} {p lb nb uS zm sO zn:Nat} {zo:List Value} {ls':List Lb} {TB:List Nat} {last:Nat} (F4:aM (mO p lb nb fun _=>False) w w4) (g4:uS=lb∨w.heap.size≤uS) (h4:sO=nb∨w.heap.size≤sO)
  (A5:cK B Y w5 p uS zm sO zn zo ls' TB last) (F5:aM (fun k=>k=sO) w4 w5):bT B Y w p lb nb ls' TB last w5:=
 ⟨uS,zm,sO,zn,zo,A5,F4.trans F5 (fun k hk e=>by rcases h4 with h4 | h4;exact Or.inr (Or.inr (Or.inl ay));omega),g4,h4⟩
theorem afk (x:Pt) (IH:qW x):qW (.mk 5 [] [] [x]):=by
 intro W0 w v u bk Y p lb cl nb cn bH ls nx last hP hB h hY hn h32 hx;have hrx:(Pt.mk 5 [] [] [x]).rx bk=.star (x.rx bk):=by rw [Pt.rx];rfl
 rw [hrx] at h32 ⊢;obtain ⟨_,_,qX,sP,ak,ni,bb,off,f,g,hgi,q1,q2,q3,q4,hrow,l9⟩:=hP.open;obtain ⟨ta,tc,hfi,t1,t2,t3,htr⟩:=qX.open;subst hfi;rw [hgi];unfold pv;simp only [Pt.kind,Pt.text,Pt.kids,Pt.texts,List.length_nil,List.length_cons,Nat.zero_add] at qX sP q1 q3 q4 hrow l9 t1 t3 htr hgi ⊢;obtain ⟨w1,hw1⟩:=aC ((w.alloc (.cells #[.int .i64 5,.string ⟨#[]⟩,.slice ta 0 tc,.slice ak 1 ni] 26)).alloc (.cells #[.int .u32 0,.int .u32 0,.bool false] 165));have hz1:w1.heap.size=w.heap.size+2:=by rw [hw1];simp
 have hb1:Below w.heap.size w w1:=by rw [hw1];exact ((Below.refl _ _).alloc aG _).alloc aH _
 have hX:aB w1 w.heap.size [.int .i64 5,.string ⟨#[]⟩,.slice ta 0 tc,.slice ak 1 ni] 26:=by rw [hw1];exact (aB.new w _ _).alloc _
 have hR:aB w1 (w.heap.size+1) [.int .u32 0,.int .u32 0,.bool false] 165:=by rw [hw1];exact aB.new' aH rfl
 have h1:=((h.more (Z:=fun k=>Y k∨k=w.heap.size∨k=w.heap.size+1) (fun k e=>e.elim Or.inl (fun e=>Or.inr ay))).keep hb1);have qd:∀ k,(Y k∨k=w.heap.size∨k=w.heap.size+1)→k<w1.heap.size:=fun k e=>by rcases e with e | e | e;(have:=hY k e;omega);omega;omega
 have hBw:Below W0.heap.size W0 w1:=hB.trans (hb1.mono hB.size);obtain ⟨c0,c1,c2,c3⟩:=lg hX;have hr4:=(hrow 0 aH).keep hBw;have hkp:=l9 0 aH;simp only [List.getElem_cons_zero,Nat.zero_mul,Nat.add_zero] at hr4 hkp;obtain rfl:=q4 ay;obtain ⟨_,_,hLk,_,ak',afl,_,_,_,_,hgi',_⟩:=hkp.open;obtain ⟨TD,TF,Cw,_⟩:=hLk.open;rw [Cw,hgi'] at hr4 hkp;obtain ⟨n1,hn1⟩:=aC x.texts.length;obtain ⟨n2,hn2⟩:=aC x.kids.length;rw [←hn1,←hn2] at hr4 hkp;obtain ⟨z0,z1,z2,z3⟩:=hr4;rw [Rx.O7] at h32;have C:=IH W0 w1 _ _ bk _ p lb cl nb cn bH ls nx last hkp hBw h1 qd hn h32 hx;obtain ⟨em,hem⟩:=aC ((x.rx bk).emp);unfold pv Ao bN at C;rw [←hem] at C;have C:=aj C;have jo:=aj hem;have HB1:=aj hb1;have H1:=aj h1;have HR:=aj hR;have uT:=aj hX;have HN:=aj hn;have HX:=aj hx;have HZ:=aj hz1;have lq:=aj h32;have Ea:=aj qd;have A9:=aj hBw;clear hem hn1 hn2 Cw hgi' hLk hkp hz1 hb1 hX h1 hR qd h hY hn hx hP hB qX hgi hrx sP htr hrow l9 h32 hBw q1 t1 t3 IH;cases em;case false=>
  go_enter func84,ntmps84;go_upto_region 1 with fail
  rw [←hw1];clear hw1;go_wp2_with fail
  refine C.out.mono ?_;rintro e w3 ⟨F,L,nx',rfl,hF,hL,gI,hp⟩;have HF:=aj hF;have HL:=aj hL;have dL:=aj gI;have qg:=bT.blk H1.out hp (Or.inr (Or.inr rfl)) HR.out;have kF:=bT.blk H1.out hp (Or.inr (Or.inl rfl)) uT.out;have ig:=aj (bT.size hp);obtain ⟨w4,hw4⟩:=aC (w3.alloc (.cells #[.int .u32 F,.int .u32 L,.bool false] 165));have mg:=qg.alloc (.cells #[.int .u32 F,.int .u32 L,.bool false] 165);have jH:=kF.alloc (.cells #[.int .u32 F,.int .u32 L,.bool false] 165);rw [←hw4] at mg jH;have mh:aB w4 w3.heap.size [.int .u32 F,.int .u32 L,.bool false] 165:=by rw [hw4];exact aB.new w3 _ _
  have mR:=bT.alloc hp (.cells #[.int .u32 F,.int .u32 L,.bool false] 165);rw [←hw4] at mR;clear hp qg kF hF hL gI;obtain ⟨k0,k1,k2,k3⟩:=lg jH;obtain ⟨n0,n1',LM⟩:=bO mh;obtain ⟨uS,zm,sO,zn,zo,A4,F4,g4,h4⟩:=mR;have FO:=Ec L F A4 (by have:=dL.out.len;have:=lq.out;omega) HL.out.1 HF.out.1 dL.out.lt;unfold bN at FO;have FO:=aj FO;have mo:=aj A4;have sQ:=aj F4;have wS:=aj g4;have wT:=aj h4;have HR4:=aj mg;have qY:=aj mh;have jy:=aj jH;clear A4 F4 g4 h4 mg mh jH;go_upto_region 14 with fail
  rw [←hw4];clear hw4;go_wp2_with fail
  refine FO.out.mono ?_;rintro e w5 ⟨rfl,A5,F5⟩;have dW:=HR4.out.aW F5 (fun e=>mo.out.yn (e ▸ Or.inl (Or.inr (Or.inr rfl))));have jI:=qY.out.aW F5 (fun e=>mo.out.yn (e ▸ Or.inr rfl));have oW:=jy.out.aW F5 (fun e=>mo.out.yn (e ▸ Or.inl (Or.inr (Or.inl rfl))));have nN:=aj (bT.follow sQ.out wS.out wT.out A5 F5);clear A5 F5;have pE:=aj dW;have wU:=aj jI;obtain ⟨r0,r1,r2⟩:=bO dW;obtain ⟨s0,s1,s2⟩:=jc dW;obtain ⟨m0,m1,m2⟩:=bO jI;have l2:=jI.free 2;have y0:=oW.cell (i:=0) rfl;have hz1:=ig.out;have hz2:=HZ.out;have hne:w3.heap.size≠w.heap.size+1:=ay;have hne2:w.heap.size+1≠w3.heap.size:=ay;have eX:=aj hne;have wV:=aj hne2;clear hz1 hz2 dW jI;go_wp2;have hz1:=ig.out;have hz2:=HZ.out;have kW:=(nN.out).set (b:=w3.heap.size) (Or.inr rfl) ay 2 (.bool true);have iK:=pE.out.other wV.out 2 (.bool true);obtain ⟨e1,e2⟩:=Cv (Y:=Y) iK (Or.inl (Or.inr (Or.inr rfl))) HB1.out (Or.inr ay) (fun k e=>Or.inl (Or.inl e)) kW (.int .u32 F) (.int .u32 L) (.bool true);have hrr:Rows (.star (x.rx bk)) ls.length nx (fM nx' L F nx'.length):=Ee (.star (x.rx bk)) dL.out HF.out HL.out rfl (fun _ _=>rfl);refine bodyPost_ret (xZ (s:=6) rfl e1 results84) rfl ⟨F,L,fM nx' L F nx'.length,rfl,HF.out,HL.out,hrr,e2⟩
 case true=>
  go_enter func84,ntmps84;go_upto_region 1 with fail
  rw [←hw1];clear hw1;go_wp2_with fail
  refine C.out.mono ?_;rintro e w3 ⟨F,L,nx',rfl,hF,hL,gI,hp⟩;have HF:=aj hF;have HL:=aj hL;have dL:=aj gI;have qg:=bT.blk H1.out hp (Or.inr (Or.inr rfl)) HR.out;have kF:=bT.blk H1.out hp (Or.inr (Or.inl rfl)) uT.out;have ig:=aj (bT.size hp);obtain ⟨w4,hw4⟩:=aC (w3.alloc (.cells #[.int .u32 F,.int .u32 L,.bool true] 165));have mg:=qg.alloc (.cells #[.int .u32 F,.int .u32 L,.bool true] 165);have jH:=kF.alloc (.cells #[.int .u32 F,.int .u32 L,.bool true] 165);rw [←hw4] at mg jH;have mh:aB w4 w3.heap.size [.int .u32 F,.int .u32 L,.bool true] 165:=by rw [hw4];exact aB.new w3 _ _
  have mR:=bT.alloc hp (.cells #[.int .u32 F,.int .u32 L,.bool true] 165);rw [←hw4] at mR;clear hp qg kF hF hL gI;obtain ⟨k0,k1,k2,k3⟩:=lg jH;obtain ⟨n0,n1',LM⟩:=bO mh;obtain ⟨uS,zm,sO,zn,zo,A4,F4,g4,h4⟩:=mR;have FO:=Ec L F A4 (by have:=dL.out.len;have:=lq.out;omega) HL.out.1 HF.out.1 dL.out.lt;unfold bN at FO;have FO:=aj FO;have mo:=aj A4;have sQ:=aj F4;have wS:=aj g4;have wT:=aj h4;have HR4:=aj mg;have qY:=aj mh;have jy:=aj jH;clear A4 F4 g4 h4 mg mh jH;go_upto_region 14 with fail
  rw [←hw4];clear hw4;go_wp2_with fail
  refine FO.out.mono ?_;rintro e w5 ⟨rfl,A5,F5⟩;have dW:=HR4.out.aW F5 (fun e=>mo.out.yn (e ▸ Or.inl (Or.inr (Or.inr rfl))));have jI:=qY.out.aW F5 (fun e=>mo.out.yn (e ▸ Or.inr rfl));have oW:=jy.out.aW F5 (fun e=>mo.out.yn (e ▸ Or.inl (Or.inr (Or.inl rfl))));have nN:=aj (bT.follow sQ.out wS.out wT.out A5 F5);clear A5 F5;have pE:=aj dW;have wU:=aj jI;obtain ⟨r0,r1,r2⟩:=bO dW;obtain ⟨s0,s1,s2⟩:=jc dW;obtain ⟨m0,m1,m2⟩:=bO jI;have l2:=jI.free 2;have y0:=oW.cell (i:=0) rfl;have hz1:=ig.out;have hz2:=HZ.out;have hne:w3.heap.size≠w.heap.size+1:=ay;have hne2:w.heap.size+1≠w3.heap.size:=ay;have eX:=aj hne;have wV:=aj hne2;clear hz1 hz2 dW jI;go_wp2;have hz1:=ig.out;have hz2:=HZ.out;have kW:=(nN.out).set (b:=w3.heap.size) (Or.inr rfl) ay 2 (.bool true);have iK:=pE.out.other wV.out 2 (.bool true);obtain ⟨e1,e2⟩:=Cv (Y:=Y) iK (Or.inl (Or.inr (Or.inr rfl))) HB1.out (Or.inr ay) (fun k e=>Or.inl (Or.inl e)) kW (.int .u32 F) (.int .u32 L) (.bool true);have hrr:Rows (.star (x.rx bk)) ls.length nx (fM nx' L F nx'.length):=Ee (.star (x.rx bk)) dL.out HF.out HL.out rfl (fun _ _=>rfl);refine bodyPost_ret (xZ (s:=6) rfl e1 results84) rfl ⟨F,L,fM nx' L F nx'.length,rfl,HF.out,HL.out,hrr,e2⟩
theorem afm (x:Pt) (IH:qW x):qW (.mk 6 [] [] [x]):=by
 intro W0 w v u bk Y p lb cl nb cn bH ls nx last hP hB h hY hn h32 hx;have hrx:(Pt.mk 6 [] [] [x]).rx bk=.plus (x.rx bk):=by rw [Pt.rx];rfl
 rw [hrx] at h32 ⊢;obtain ⟨_,_,qX,sP,ak,ni,bb,off,f,g,hgi,q1,q2,q3,q4,hrow,l9⟩:=hP.open;obtain ⟨ta,tc,hfi,t1,t2,t3,htr⟩:=qX.open;subst hfi;rw [hgi];unfold pv;simp only [Pt.kind,Pt.text,Pt.kids,Pt.texts,List.length_nil,List.length_cons,Nat.zero_add] at qX sP q1 q3 q4 hrow l9 t1 t3 htr hgi ⊢;obtain ⟨w1,hw1⟩:=aC ((w.alloc (.cells #[.int .i64 6,.string ⟨#[]⟩,.slice ta 0 tc,.slice ak 1 ni] 26)).alloc (.cells #[.int .u32 0,.int .u32 0,.bool false] 165));have hz1:w1.heap.size=w.heap.size+2:=by rw [hw1];simp
 have hb1:Below w.heap.size w w1:=by rw [hw1];exact ((Below.refl _ _).alloc aG _).alloc aH _
 have hX:aB w1 w.heap.size [.int .i64 6,.string ⟨#[]⟩,.slice ta 0 tc,.slice ak 1 ni] 26:=by rw [hw1];exact (aB.new w _ _).alloc _
 have hR:aB w1 (w.heap.size+1) [.int .u32 0,.int .u32 0,.bool false] 165:=by rw [hw1];exact aB.new' aH rfl
 have h1:=((h.more (Z:=fun k=>Y k∨k=w.heap.size∨k=w.heap.size+1) (fun k e=>e.elim Or.inl (fun e=>Or.inr ay))).keep hb1);have qd:∀ k,(Y k∨k=w.heap.size∨k=w.heap.size+1)→k<w1.heap.size:=fun k e=>by rcases e with e | e | e;(have:=hY k e;omega);omega;omega
 have hBw:Below W0.heap.size W0 w1:=hB.trans (hb1.mono hB.size);obtain ⟨c0,c1,c2,c3⟩:=lg hX;have hr4:=(hrow 0 aH).keep hBw;have hkp:=l9 0 aH;simp only [List.getElem_cons_zero,Nat.zero_mul,Nat.add_zero] at hr4 hkp;obtain rfl:=q4 ay;obtain ⟨_,_,hLk,_,ak',afl,_,_,_,_,hgi',_⟩:=hkp.open;obtain ⟨TD,TF,Cw,_⟩:=hLk.open;rw [Cw,hgi'] at hr4 hkp;obtain ⟨n1,hn1⟩:=aC x.texts.length;obtain ⟨n2,hn2⟩:=aC x.kids.length;rw [←hn1,←hn2] at hr4 hkp;obtain ⟨z0,z1,z2,z3⟩:=hr4;rw [Rx.O8] at h32;have C:=IH W0 w1 _ _ bk _ p lb cl nb cn bH ls nx last hkp hBw h1 qd hn h32 hx;obtain ⟨em,hem⟩:=aC ((x.rx bk).emp);unfold pv Ao bN at C;rw [←hem] at C;have C:=aj C;have jo:=aj hem;have HB1:=aj hb1;have H1:=aj h1;have HR:=aj hR;have uT:=aj hX;have HN:=aj hn;have HX:=aj hx;have HZ:=aj hz1;have lq:=aj h32;have Ea:=aj qd;have A9:=aj hBw;clear hem hn1 hn2 Cw hgi' hLk hkp hz1 hb1 hX h1 hR qd h hY hn hx hP hB qX hgi hrx sP htr hrow l9 h32 hBw q1 t1 t3 IH;cases em;case false=>
  go_enter func84,ntmps84;go_upto_region 1 with fail
  rw [←hw1];clear hw1;go_wp2_with fail
  refine C.out.mono ?_;rintro e w3 ⟨F,L,nx',rfl,hF,hL,gI,hp⟩;have HF:=aj hF;have HL:=aj hL;have dL:=aj gI;have qg:=bT.blk H1.out hp (Or.inr (Or.inr rfl)) HR.out;have kF:=bT.blk H1.out hp (Or.inr (Or.inl rfl)) uT.out;have ig:=aj (bT.size hp);obtain ⟨w4,hw4⟩:=aC (w3.alloc (.cells #[.int .u32 F,.int .u32 L,.bool false] 165));have mg:=qg.alloc (.cells #[.int .u32 F,.int .u32 L,.bool false] 165);have jH:=kF.alloc (.cells #[.int .u32 F,.int .u32 L,.bool false] 165);rw [←hw4] at mg jH;have mh:aB w4 w3.heap.size [.int .u32 F,.int .u32 L,.bool false] 165:=by rw [hw4];exact aB.new w3 _ _
  have mR:=bT.alloc hp (.cells #[.int .u32 F,.int .u32 L,.bool false] 165);rw [←hw4] at mR;clear hp qg kF hF hL gI;obtain ⟨k0,k1,k2,k3⟩:=lg jH;obtain ⟨n0,n1',LM⟩:=bO mh;obtain ⟨uS,zm,sO,zn,zo,A4,F4,g4,h4⟩:=mR;have FO:=Ec L F A4 (by have:=dL.out.len;have:=lq.out;omega) HL.out.1 HF.out.1 dL.out.lt;unfold bN at FO;have FO:=aj FO;have mo:=aj A4;have sQ:=aj F4;have wS:=aj g4;have wT:=aj h4;have HR4:=aj mg;have qY:=aj mh;have jy:=aj jH;clear A4 F4 g4 h4 mg mh jH;go_upto_region 14 with fail
  rw [←hw4];clear hw4;go_wp2_with fail
  refine FO.out.mono ?_;rintro e w5 ⟨rfl,A5,F5⟩;have dW:=HR4.out.aW F5 (fun e=>mo.out.yn (e ▸ Or.inl (Or.inr (Or.inr rfl))));have jI:=qY.out.aW F5 (fun e=>mo.out.yn (e ▸ Or.inr rfl));have oW:=jy.out.aW F5 (fun e=>mo.out.yn (e ▸ Or.inl (Or.inr (Or.inl rfl))));have nN:=aj (bT.follow sQ.out wS.out wT.out A5 F5);clear A5 F5;have pE:=aj dW;have wU:=aj jI;obtain ⟨r0,r1,r2⟩:=bO dW;obtain ⟨s0,s1,s2⟩:=jc dW;obtain ⟨m0,m1,m2⟩:=bO jI;have l2:=jI.free 2;have y0:=oW.cell (i:=0) rfl;have hz1:=ig.out;have hz2:=HZ.out;have hne:w3.heap.size≠w.heap.size+1:=ay;have hne2:w.heap.size+1≠w3.heap.size:=ay;have eX:=aj hne;have wV:=aj hne2;clear hz1 hz2 dW jI;go_wp2;have hz1:=ig.out;have hz2:=HZ.out;have kW:=(nN.out).set (b:=w3.heap.size) (Or.inr rfl) ay 2 (.bool false);have iK:=pE.out.other wV.out 2 (.bool false);obtain ⟨e1,e2⟩:=Cv (Y:=Y) iK (Or.inl (Or.inr (Or.inr rfl))) HB1.out (Or.inr ay) (fun k e=>Or.inl (Or.inl e)) kW (.int .u32 F) (.int .u32 L) (.bool false);have hrr:Rows (.plus (x.rx bk)) ls.length nx (fM nx' L F nx'.length):=Ee (.plus (x.rx bk)) dL.out HF.out HL.out rfl (fun _ _=>rfl);refine bodyPost_ret (xZ (s:=6) rfl e1 results84) rfl ⟨F,L,fM nx' L F nx'.length,(by show _=Ending.returned (.agg #[.int .u32 F,.int .u32 L,.bool (x.rx bk).emp]);rw [←jo.out]),HF.out,HL.out,hrr,e2⟩
 case true=>
  go_enter func84,ntmps84;go_upto_region 1 with fail
  rw [←hw1];clear hw1;go_wp2_with fail
  refine C.out.mono ?_;rintro e w3 ⟨F,L,nx',rfl,hF,hL,gI,hp⟩;have HF:=aj hF;have HL:=aj hL;have dL:=aj gI;have qg:=bT.blk H1.out hp (Or.inr (Or.inr rfl)) HR.out;have kF:=bT.blk H1.out hp (Or.inr (Or.inl rfl)) uT.out;have ig:=aj (bT.size hp);obtain ⟨w4,hw4⟩:=aC (w3.alloc (.cells #[.int .u32 F,.int .u32 L,.bool true] 165));have mg:=qg.alloc (.cells #[.int .u32 F,.int .u32 L,.bool true] 165);have jH:=kF.alloc (.cells #[.int .u32 F,.int .u32 L,.bool true] 165);rw [←hw4] at mg jH;have mh:aB w4 w3.heap.size [.int .u32 F,.int .u32 L,.bool true] 165:=by rw [hw4];exact aB.new w3 _ _
  have mR:=bT.alloc hp (.cells #[.int .u32 F,.int .u32 L,.bool true] 165);rw [←hw4] at mR;clear hp qg kF hF hL gI;obtain ⟨k0,k1,k2,k3⟩:=lg jH;obtain ⟨n0,n1',LM⟩:=bO mh;obtain ⟨uS,zm,sO,zn,zo,A4,F4,g4,h4⟩:=mR;have FO:=Ec L F A4 (by have:=dL.out.len;have:=lq.out;omega) HL.out.1 HF.out.1 dL.out.lt;unfold bN at FO;have FO:=aj FO;have mo:=aj A4;have sQ:=aj F4;have wS:=aj g4;have wT:=aj h4;have HR4:=aj mg;have qY:=aj mh;have jy:=aj jH;clear A4 F4 g4 h4 mg mh jH;go_upto_region 14 with fail
  rw [←hw4];clear hw4;go_wp2_with fail
  refine FO.out.mono ?_;rintro e w5 ⟨rfl,A5,F5⟩;have dW:=HR4.out.aW F5 (fun e=>mo.out.yn (e ▸ Or.inl (Or.inr (Or.inr rfl))));have jI:=qY.out.aW F5 (fun e=>mo.out.yn (e ▸ Or.inr rfl));have oW:=jy.out.aW F5 (fun e=>mo.out.yn (e ▸ Or.inl (Or.inr (Or.inl rfl))));have nN:=aj (bT.follow sQ.out wS.out wT.out A5 F5);clear A5 F5;have pE:=aj dW;have wU:=aj jI;obtain ⟨r0,r1,r2⟩:=bO dW;obtain ⟨s0,s1,s2⟩:=jc dW;obtain ⟨m0,m1,m2⟩:=bO jI;have l2:=jI.free 2;have y0:=oW.cell (i:=0) rfl;have hz1:=ig.out;have hz2:=HZ.out;have hne:w3.heap.size≠w.heap.size+1:=ay;have hne2:w.heap.size+1≠w3.heap.size:=ay;have eX:=aj hne;have wV:=aj hne2;clear hz1 hz2 dW jI;go_wp2;have hz1:=ig.out;have hz2:=HZ.out;have kW:=(nN.out).set (b:=w3.heap.size) (Or.inr rfl) ay 2 (.bool true);have iK:=pE.out.other wV.out 2 (.bool true);obtain ⟨e1,e2⟩:=Cv (Y:=Y) iK (Or.inl (Or.inr (Or.inr rfl))) HB1.out (Or.inr ay) (fun k e=>Or.inl (Or.inl e)) kW (.int .u32 F) (.int .u32 L) (.bool true);have hrr:Rows (.plus (x.rx bk)) ls.length nx (fM nx' L F nx'.length):=Ee (.plus (x.rx bk)) dL.out HF.out HL.out rfl (fun _ _=>rfl);refine bodyPost_ret (xZ (s:=6) rfl e1 results84) rfl ⟨F,L,fM nx' L F nx'.length,(by show _=Ending.returned (.agg #[.int .u32 F,.int .u32 L,.bool (x.rx bk).emp]);rw [←jo.out]),HF.out,HL.out,hrr,e2⟩
end Go.Proofs.YtockbaekcbeenaaGreatDoor
namespace Go.Proofs.YtockbaekcbeenaaGreatDoor
open Go.Proofs.Tryz
open Go.ChangeShapes Go.WideShapes Go.ChangeAt Go.RowKit
open Au
theorem afn {W:World} {v u:Value} {x:Pt} (h:fT W v u x):∃ a n c a' n' c',v=.slice a n c∧u=.slice a' n' c':=by obtain ⟨_,_,hL,_,a',c',_,_,_,_,hg,_⟩:=h.open;obtain ⟨a,c,hf,_⟩:=hL.open;exact ⟨a,_,c,a',_,c',hf,hg⟩
end Go.Proofs.YtockbaekcbeenaaGreatDoor
