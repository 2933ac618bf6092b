/-QPath-/
import Derived.Test.YtockbaekcbeenaaGreatDoorMkHd1
import Derived.Test.YtockbaekcbeenaaGreatDoorMkGAu1
import Derived.Test.YtockbaekcbeenaaGreatDoorMkGTm3
import Derived.Deep.DeepCutAuto
set_option linter.unusedVariables false
set_option linter.unusedSimpArgs false
set_option maxRecDepth 100000
set_option maxHeartbeats 4000000
namespace Go.Proofs.YtockbaekcbeenaaGreatDoor
open Go.Proofs.Tryz
open Go.ChangeShapes Go.WideShapes Go.ChangeAt Go.RowKit
open Au
structure Stp where
 from_:Int
 dest:Int
 back:Bool
 not:Bool
 texts:List T
deriving Inhabited
def Gh (W:World) (b o:Nat) (x:Stp) (v:Value):Prop:=W.cell? ⟨b,o,none⟩=some (.int .i64 x.from_)∧W.cell? ⟨b,o+1,none⟩=some (.int .i64 x.dest)∧W.cell? ⟨b,o+2,none⟩=some (.bool x.back)∧W.cell? ⟨b,o+3,none⟩=some (.bool x.not)∧W.cell? ⟨b,o+4,none⟩=some v
theorem Gh.keep {W W':World} {b o:Nat} {x:Stp} {v:Value} (h:Gh W b o x v) (hb:Below W.heap.size W W'):Gh W' b o x v:=
 ⟨aD hb h.1,aD hb h.2.1,aD hb h.2.2.1,aD hb h.2.2.2.1,aD hb h.2.2.2.2⟩
def sM (W:World) (v:Value) (L:List Stp):Prop:=∃ (a:Option Addr) (cap b off:Nat) (f:Nat→Value),v=.slice a L.length cap∧L.length≤cap∧cap≤maxLen∧(a=none→cap=0)∧(0<L.length→a=some ⟨b,off,none⟩) ∧
 (∀ i (h:i<L.length),Gh W b (off+i*5) L[i] (f i))∧(∀ i (h:i<L.length),iA W (f i) L[i].texts)
def Stp.low (x:Stp):Prop:=∀ i,(x.texts.getD i []).length≤140737488351232
theorem sM.keep {W W':World} {v:Value} {L:List Stp} (h:sM W v L) (hb:Below W.heap.size W W'):sM W' v L:=by obtain ⟨a,cap,b,off,f,h1,h2,h3,h4,h5,h6,h7⟩:=h;exact ⟨a,cap,b,off,f,h1,h2,h3,h4,h5,fun i hi=>(h6 i hi).keep hb,fun i hi=>(h7 i hi).keep hb⟩
theorem sM.nil (W:World):sM W (.slice none 0 0) []:=⟨none,0,0,0,fun _=>undef,rfl,Nat.le_refl _,by unfold maxLen;omega,fun _=>rfl,fun h=>absurd h aH,fun i h=>absurd h aH,fun i h=>absurd h aH⟩
theorem sM.open {W:World} {v:Value} {L:List Stp} (h:sM W v L):∃ (a:Option Addr) (cap:Nat),v=.slice a L.length cap∧L.length≤cap∧cap≤maxLen:=by obtain ⟨a,cap,b,off,f,h1,h2,h3,_⟩:=h;exact ⟨a,cap,h1,h2,h3⟩
section
variable {H:Type} {enc:TypeId×Value→H} {W:World} {base:Nat} {v:Value} {d:DataW H} {p:List MemPlace}
end
end Go.Proofs.YtockbaekcbeenaaGreatDoor
namespace Go.Proofs.YtockbaekcbeenaaGreatDoor
open Go.Proofs.Tryz
open Go.ChangeShapes Go.WideShapes Go.ChangeAt Go.RowKit
open Au
theorem ae8 (k:Int) (w:World):Calls prog 145 #[.int .i64 k] w fun e w'=>e=.returned (.int .i64 (Pt.gZ k))∧w'=w:=by
 rcases (show k=1∨k=2∨k=3∨k=4∨k=5∨k=6∨k=7∨k=8∨(k≠1∧k≠2∧k≠3∧k≠4∧k≠5∧k≠6∧k≠7∧k≠8) by omega) with h | h | h | h | h | h | h | h | h;all_goals (try subst h)
 all_goals (try (
  go_enter func145,ntmps145
  go_wp2
  go_ret
  exact ⟨rfl,rfl⟩))
 obtain ⟨h1,h2,h3,h4,h5,h6,h7,h8⟩:=h;have e:Pt.gZ k = -1:=by unfold Pt.gZ;rw [if_neg ay,if_neg ay,if_neg ay]
 have b1:(k==1)=false:=beq_eq_false_iff_ne.2 h1;have b2:(k==2)=false:=beq_eq_false_iff_ne.2 h2;have b3:(k==3)=false:=beq_eq_false_iff_ne.2 h3;have b4:(k==4)=false:=beq_eq_false_iff_ne.2 h4;have b5:(k==5)=false:=beq_eq_false_iff_ne.2 h5;have b6:(k==6)=false:=beq_eq_false_iff_ne.2 h6;have b7:(k==7)=false:=beq_eq_false_iff_ne.2 h7;have b8:(k==8)=false:=beq_eq_false_iff_ne.2 h8;rw [e];clear h1 h2 h3 h4 h5 h6 h7 h8 e;go_enter func145,ntmps145;go_wp2;go_ret;exact ⟨rfl,rfl⟩
theorem Ls (w:World) (x:Pt) (v u:Value) (h:fT w v u x):∃ w1,w1=w.alloc (.cells #[.int .i64 x.kind,aA x.text,v,u] 26)∧w1.heap.size=w.heap.size+1∧Hid (aB w1 w.heap.size [.int .i64 x.kind,aA x.text,v,u] 26)∧Hid (fT w1 v u x)∧Hid (Below w.heap.size w w1):=by have hb:Below w.heap.size w (w.alloc (.cells #[.int .i64 x.kind,aA x.text,v,u] 26)):=(Below.refl _ _).alloc aG _;exact ⟨_,rfl,aH,aB.new w _ _,h.keep hb,hb⟩
theorem lg {w:World} {b:Nat} {x0 x1 x2 x3:Value} {t:TypeId} (h:aB w b [x0,x1,x2,x3] t):w.cell? ⟨b,0,none⟩=some x0∧w.cell? ⟨b,1,none⟩=some x1∧w.cell? ⟨b,2,none⟩=some x2∧w.cell? ⟨b,3,none⟩=some x3:=
 ⟨h.cell rfl,h.cell rfl,h.cell rfl,h.cell rfl⟩
theorem ae9 (x:Pt) (v u:Value) (w:World) (hT:T8 w) (h:fT w v u x) :
  Calls prog 146 #[pv x v u] w fun e w'=>e=.returned (.bool (Pt.txt x.kind x.text x.texts))∧Below w.heap.size w w':=by
 have IR:=aj (fun t w (h:t.length≤9223372036854775807) h2=>I7 t w h h2);obtain ⟨ANS,hA⟩:=aC (Pt.txt x.kind x.text x.texts);rw [←hA];obtain ⟨w1,hw1,hz,HX,HP,HB⟩:=Ls w x v u h;obtain ⟨k,t,L,K⟩:=x;simp only [Pt.kind,Pt.text,Pt.texts] at hA;unfold Pt.txt at hA;have HA:=aj hA;clear hA;unfold pv;go_enter func146,ntmps146;go_upto_region 1 with fail
 rw [←hw1];obtain ⟨hk,ht,hL,hl,_⟩:=HP.out.open;obtain ⟨c0,c1,c2,c3⟩:=lg HX.out;simp only [Pt.kind,Pt.text,Pt.texts] at c0 c1 c2 c3 hk ht hL hl;obtain ⟨a,cap,rfl,q1,q2,q3,hr⟩:=hL.open;have HT:=aj (hT.keep HB.out);have HR:=aj hr;have sN:=aj hl;clear hw1 hr hl hT h hL HX HP;by_cases k1:k=1
 · subst k1;cases L with
   | nil=>have C:=aj (IR.out t w1 ay HT.out);(go_wp2_with (go_at_call 160;refine C.out.mono ?_;rintro e w' ⟨rfl,hb⟩));go_ret;exact ⟨iN (by rw [HA.out];simp),aI HB.out hb⟩
   | cons s L=>have e0:((List.length (s::L):Int)==0)=false:=beq_eq_false_iff_ne.2 (by simp;omega);have HA2:=aj (show ANS=false by rw [HA.out];rfl);obtain ⟨n,hn⟩:=aC ((s::L).length);rw [←hn] at e0 q1 q3 c2 ⊢;clear hn HR sN HA;go_wp2;go_ret;exact ⟨iN HA2.out.symm,HB.out⟩
 · have b1:(k==1)=false:=beq_eq_false_iff_ne.2 k1;by_cases k8:k=8
   · subst k8;have HA2:=aj (show ANS=(t.isEmpty && decide (1≤L.length) && decide (L.length≤4) && L.all Tm.fF) by rw [HA.out];rfl);clear HA k1;by_cases h0:t=[]
     · subst h0;by_cases hlo:L.length<1;{have HF:=aj (show ANS=false by rw [HA2.out,show decide (1≤L.length)=false from decide_eq_false ay];simp);obtain ⟨n,hn⟩:=aC L.length;rw [←hn] at hlo q1 q3 c2 ⊢;clear hn HA2 HR sN;go_wp2;go_ret;exact ⟨iN HF.out.symm,HB.out⟩};by_cases hhi:4<L.length;{have HF:=aj (show ANS=false by rw [HA2.out,show decide (L.length≤4)=false from decide_eq_false ay];simp);obtain ⟨n,hn⟩:=aC L.length;rw [←hn] at hlo hhi q1 q3 c2 ⊢;clear hn HA2 HR sN;go_wp2;go_ret;exact ⟨iN HF.out.symm,HB.out⟩};have HF:=aj (show ANS=L.all Tm.fF by rw [HA2.out,show decide (L.length≤4)=true from decide_eq_true ay,show decide (1≤L.length)=true from decide_eq_true ay];rfl);clear HA2;obtain ⟨n,hn⟩:=aC L.length;have HN:=aj hn;rw [←hn] at hlo hhi q1 q3 c2 HR ⊢;clear hn;go_wp2;go_loopw [47] (fun Lu wr=>∃ i:Nat,i≤n∧Lu=.int .i64 i∧Hid (Below w1.heap.size w1 wr)∧Hid ((L.take i).all Tm.fF=true)) (fun Lu _=>n-(intOf Lu).toNat)
       (case atStart=>exact ⟨0,ay,rfl,Below.refl _ _,rfl⟩);case round=>
        obtain ⟨i,hi,rfl,bg,Cr⟩:=hrel;by_cases hlt:i<n
        · obtain ⟨b,off,hab,hc⟩:=HR.out.get hlt;have d0:=aD bg.out (hc i hlt);have hsl:=sN.out i;subst hab;have HM:=aj (show L.getD i []∈L∧L.take (i+1)=L.take i++[L.getD i []] from by have hil:i<L.length:=(by rw [←HN.out];exact hlt);have hgd:L.getD i []=L[i]:=(by simp [List.getD,hil]);rw [hgd];exact ⟨List.getElem_mem _,by rw [List.take_add_one,List.getElem?_eq_getElem hil];rfl⟩);obtain ⟨s,hs⟩:=aC (L.getD i []);rw [←hs] at d0 hsl HM;have C:=aj (IR.out s wr ay (HT.out.keep bg.out));clear hc hs;cases hb:Tm.fF s;{rw [hb] at C;have l8:=aj (show ANS=false by rw [HF.out,List.all_eq_false];exact ⟨s,HM.out.1,by rw [hb];simp⟩);clear hb;(go_wp2_with (go_at_call 160;refine C.out.mono ?_;rintro e w' ⟨rfl,hb⟩));go_ret;exact ⟨iN l8.out.symm,aI HB.out (aI bg.out hb)⟩}
          · rw [hb] at C;have l8:=aj (show (L.take (i+1)).all Tm.fF=true by rw [HM.out.2,List.all_append,Cr.out];simp [hb]);clear hb;(go_wp2_with (go_at_call 160;refine C.out.mono ?_;rintro e w' ⟨rfl,hb⟩));go_roundw
            (case rel=>exact ⟨i+1,ay,aN,aI bg.out hb,l8.out⟩);case measure=>simp [intOf];omega
        {obtain rfl:i=n:=ay;have l8:=aj (show ANS=true by rw [HF.out];have h:=Cr.out;rwa [HN.out,List.take_length] at h);go_wp2;go_ret;exact ⟨iN l8.out.symm,aI HB.out bg.out⟩}
     {have HF:=aj (show ANS=false by rw [HA2.out,show t.isEmpty=false by simpa using h0];rfl);clear HA2;go_wp2;go_ret;exact ⟨iN HF.out.symm,HB.out⟩}
   · have HA2:=aj (show ANS=(t.isEmpty && L.isEmpty) by rw [HA.out,if_neg k1,if_neg k8]);have b8:(k==8)=false:=beq_eq_false_iff_ne.2 k8;clear k1 k8 HA;cases L with
     | nil=>by_cases h0:t=[];{subst h0;go_wp2;go_ret;exact ⟨iN (by rw [HA2.out];simp),HB.out⟩};{have h1:t.isEmpty=false:=(by simpa using h0);have HF:=aj (show ANS=false by rw [HA2.out,h1];rfl);clear HA2 h1;go_wp2;go_ret;exact ⟨iN (by rw [HF.out]),HB.out⟩}
     | cons s L=>have e0:((List.length (s::L):Int)==0)=false:=beq_eq_false_iff_ne.2 (by simp;omega);have HF:=aj (show ANS=false by rw [HA2.out];simp);obtain ⟨n,hn⟩:=aC ((s::L).length);rw [←hn] at e0 q1 q3 c2 ⊢;clear hn HR sN HA2;by_cases h0:t=[];{subst h0;go_wp2;go_ret;exact ⟨iN (by rw [HF.out]),HB.out⟩};{go_wp2;go_ret;exact ⟨iN (by rw [HF.out]),HB.out⟩}
def iZ (x:Pt) (d:Nat) (n:Int):Bool:=x.wf d && decide ((x.size:Int)≤n)
def Ct (x:Pt) (d:Nat) (n:Int) (q:Nat) (w:World) (e:Ending) (w':World):Prop:=e=.returned (.bool (iZ x d n))∧aM (fun b=>b=q) w w'∧(iZ x d n=true→aB w' q [.int .i64 (n-x.size)] 3)
theorem size_mk (k:Int) (t:T) (L:List T) (K:List Pt):(Pt.mk k t L K).size=1+Pt.sizes K:=by rw [Pt.size]
theorem oV (d:Nat) (k:Int) (t:T) (L:List T) (K:List Pt):(Pt.mk k t L K).wf d=(decide (d≤5) && decide ((K.length:Int)=Pt.gZ k) && Pt.txt k t L && Pt.xW (d+1) K):=by rw [Pt.wf]
theorem Lv (K:List Pt) (i:Nat) (h:i<K.length):Pt.sizes (K.take (i+1))=Pt.sizes (K.take i)+(K.getD i default).size:=by rw [Pt.Zc K i h];simp [List.getD,h]
theorem ae_ (k:Int) (t:T) (L:List T) (K:List Pt) (d:Nat) (n:Int) (i:Nat) (h:i<K.length) (hno:iZ (K.getD i default) (d+1) (n-1-Pt.sizes (K.take i))=false):iZ (.mk k t L K) d n=false:=by
 rw [Bool.eq_false_iff];intro hy;unfold iZ at hy hno;rw [oV,size_mk] at hy;simp only [Bool.and_eq_true,decide_eq_true_eq] at hy;obtain ⟨⟨_,hw⟩,hs⟩:=hy;have h1:=(Pt.vI _ _).1 hw (K.getD i default) (by simp [List.getD,h]);rw [h1,Bool.true_and,decide_eq_false_iff_not] at hno;have h2:=Lv K i h;have h3:Pt.sizes (K.take (i+1))≤Pt.sizes K:=by
  have:∀ (K:List Pt) (j:Nat),Pt.sizes (K.take j)≤Pt.sizes K:=fun K=>by
   induction K with
   | nil=>intro j;simp
   | cons a K ih=>intro j;cases j with
    | zero=>simp [Pt.sizes]
    | succ j=>have:=ih j;simp only [List.take_succ_cons,Pt.sizes];omega
  exact this K _
 omega
theorem afa (k:Int) (t:T) (L:List T) (K:List Pt) (d:Nat) (n:Int) (h1:d≤5) (h2:(K.length:Int)=Pt.gZ k) (h3:Pt.txt k t L=true) (h4:∀ j,j<K.length→(K.getD j default).wf (d+1)=true) (h5:0≤n-1-Pt.sizes K):iZ (.mk k t L K) d n=true:=by unfold iZ;rw [oV,size_mk];simp only [Bool.and_eq_true,decide_eq_true_eq];refine ⟨⟨⟨⟨h1,h2⟩,h3⟩,(Pt.vI _ _).2 fun x hx=>?_⟩,ay⟩;obtain ⟨j,hj,rfl⟩:=List.getElem_of_mem hx;have:=h4 j hj;simpa [List.getD,hj] using this
theorem afb:∀ (x:Pt) (W0 w:World) (v u:Value) (d q:Nat) (n:Int),fT W0 v u x→T8 W0→Below W0.heap.size W0 w→W0.heap.size≤q→aB w q [.int .i64 n] 3→d≤6→0≤n→n≤30 →
  Calls prog 113 #[pv x v u,.int .i64 d,.pointer (some ⟨q,0,none⟩)] w (Ct x d n q w):=by
 intro x;induction x using Pt.ind with
 | h k t L K ih=>
  intro W0 w v u d q n hP hT hB hq hQ hd hn0 hn;have IH:=aj ih;have KI:=aj (fun w=>ae8 k w);have TX:=aj (fun w h1 h2=>ae9 (.mk k t L K) v u w h1 h2);have hBs:=hB.size;have hQl:=hQ.lt;obtain ⟨hk,_,_,_,a,cap,b,off,f,g,rfl,q1,q2,q3,q4,hrow,l9⟩:=hP.open;simp only [Pt.kids,Pt.kind] at q1 q3 q4 hrow l9 hk;have qc:=aj hrow;have Lx:=aj l9;have HP:=aj hP;have HT:=aj hT;have HB:=aj hB;have HQ:=aj hQ;obtain ⟨wb,hwb⟩:=aC (w.alloc (.cells #[.int .i64 k,aA t,v,.slice a K.length cap] 26));have hX:aB wb w.heap.size [.int .i64 k,aA t,v,.slice a K.length cap] 26:=by rw [hwb];exact aB.new w _ _
  have hQb:aB wb q [.int .i64 n] 3:=by rw [hwb];exact hQ.alloc _
  have Tp:aM (fun b=>b=q) w wb:=by rw [hwb];exact (aM.refl _ _).alloc _
  obtain ⟨w2,hw2⟩:=aC (wb.setCell ⟨q,0,none⟩ (.int .i64 (n-1)));have hX2:aB w2 w.heap.size [.int .i64 k,aA t,v,.slice a K.length cap] 26:=by rw [hw2];exact hX.other ay _ _
  have Tq:aB w2 q [.int .i64 (n-1)] 3:=by rw [hw2];exact hQb.set 0 _
  have hF2:aM (fun b=>b=q) w w2:=by rw [hw2];exact Tp.set (Or.inl rfl) _ _
  have cq:=hQb.cell (i:=0) rfl;have fq:=hQb.free 0;have dZ:=aj hX2;have t_:=aj Tq;have rJ:=aj hF2;clear hX hX2 hQb Tq Tp hF2 hP hT hB hQ hrow l9 ih;unfold pv;simp only [Pt.kind,Pt.text,Pt.kids];simp only [pv,Pt.kind,Pt.text,Pt.kids] at TX;go_enter func113,ntmps113;go_upto_region 1 with fail
  rw [←hwb];clear hwb;go_upto_region 2 with fail
  rw [←hw2];clear hw2 cq fq;have gK:iZ (.mk k t L K) d n=false→∀ wz,Below w2.heap.size w2 wz→Ct (.mk k t L K) d n q w (.returned (.bool false)) wz:=fun h wz hb=>⟨by rw [h],rJ.out.trans (aM.of_below hb) (fun _ _ h=>h),fun h2=>by rw [h] at h2;cases h2⟩;have gK:=aj gK;have hwz:w.heap.size<w2.heap.size:=dZ.out.lt;have hB2:Below W0.heap.size W0 w2:=HB.out.trans (rJ.out.below hBs (fun k hk h=>ay));have lS:=aj (HP.out.keep hB2);have HT2:=aj (HT.out.keep hB2);have HB2:=aj hB2;have y9:=aj fun p:Later w2.heap.size w2=>TX.out p.it (HT2.out.keep p.low) (lS.out.keep p.low);obtain ⟨m,hm⟩:=aC (n-1);rw [←hm] at t_;have HM:=aj hm;obtain ⟨c0,c1,c2,c3⟩:=lg dZ.out;have g0:=fun p:Later w2.heap.size w2=>p.keep c0;have g1:=fun p:Later w2.heap.size w2=>p.keep c1;have g2:=fun p:Later w2.heap.size w2=>p.keep c2;have g3:=fun p:Later w2.heap.size w2=>p.keep c3;have cq:=t_.out.cell (i:=0) rfl;have gq:=fun p:Later w2.heap.size w2=>p.keep cq;have hm0:m<0∨0≤m:=ay;clear hB2 TX;rcases hm0 with hm0 | hm0;{have hno:iZ (.mk k t L K) d n=false:=(by unfold iZ;rw [size_mk,show decide (((1+Pt.sizes K:Nat):Int)≤n)=false from decide_eq_false ay,Bool.and_false]);have fE:=aj (gK.out hno);have d1:decide (m<0)=true:=decide_eq_true hm0;clear hm hno hm0;refine dP w2.heap.size aF aF ?_;(repeat (go_big_quiet_step (fail)));refine wpQuiet_nil ?_;rintro w3 ⟨p,rfl⟩;have hb3:=aj p.low;clear g0 g1 g2 g3 gq;go_wp2;go_ret;exact fE.out _ hb3.out};have d1:decide (m<0)=false:=decide_eq_false ay;by_cases hd5:5<d;{have hno:iZ (.mk k t L K) d n=false:=(by unfold iZ;rw [oV,show decide (d≤5)=false from decide_eq_false ay];rfl);have fE:=aj (gK.out hno);have d2:decide ((5:Int)<(d:Int))=true:=decide_eq_true ay;clear hm hno hm0;refine dP w2.heap.size aF aF ?_;(repeat (go_big_quiet_step (fail)));refine wpQuiet_nil ?_;rintro w3 ⟨p,rfl⟩;have hb3:=aj p.low;clear g0 g1 g2 g3 gq;go_wp2;go_ret;exact fE.out _ hb3.out};have d2:decide ((5:Int)<(d:Int))=false:=decide_eq_false ay;by_cases hkk:(K.length:Int)=Pt.gZ k
  · have d3:((K.length:Int) != Pt.gZ k)=false:=(by rw [hkk];simp);obtain ⟨kk,za⟩:=aC (Pt.gZ k);rw [←za] at d3 KI;cases htx:Pt.txt k t L;{have hno:iZ (.mk k t L K) d n=false:=(by unfold iZ;rw [oV,htx];simp);have fE:=aj (gK.out hno);simp only [Pt.texts] at y9;rw [htx] at y9;clear hm hno hm0 htx hkk za;refine dP w2.heap.size aF aF ?_;(repeat (go_big_quiet_step (first | (go_at_call 145;with_reducible exact Later.lF (KI.out _)) | (go_at_call 146;with_reducible exact Later.call aG (y9.out _)) | fail)));refine wpQuiet_nil ?_;rintro w3 ⟨p,rfl⟩;have hb3:=aj p.low;clear g0 g1 g2 g3 gq;go_wp2;go_ret;exact fE.out _ hb3.out}
    · simp only [Pt.texts] at y9;rw [htx] at y9;have iY:=aj htx;have HKK:=aj hkk;clear hm htx hkk za;refine dP w2.heap.size aF aF ?_;(repeat (go_big_quiet_step (first | (go_at_call 145;with_reducible exact Later.lF (KI.out _)) | (go_at_call 146;with_reducible exact Later.call aG (y9.out _)) | fail)));refine wpQuiet_nil ?_;rintro w3 ⟨p,rfl⟩;have hb3:=aj p.low;have e3:=p.keep c3;clear g0 g1 g2 g3 gq;go_wp2;have hw3:=hb3.out.size;have HB3:=aj ((HB2.out.trans (hb3.out.mono (HB2.out.size))));have Tt:=aj (t_.out.keep hb3.out);have Gc:=aj (rJ.out.trans (aM.of_below (X:=fun b=>b=q) hb3.out) (fun _ _ h=>h));obtain ⟨w3,Tv⟩:=aC p.it;rw [←Tv] at e3 HB3 Tt Gc hw3 ⊢;clear Tv hb3 p;have HNF:=aj fun (h:iZ (.mk k t L K) d n=false) wz (hf:aM (fun b=>b=q) w wz)=>(show Ct (.mk k t L K) d n q w (.returned (.bool false)) wz from ⟨by rw [h],hf,fun h2=>by rw [h] at h2;cases h2⟩);obtain ⟨N,hN⟩:=aC K.length;have HN:=aj hN;rw [←hN] at q1 q4 e3 d3 ⊢;have hNm:N≤9223372036854775807:=(by unfold maxLen at q2;omega);clear hN gK;go_loopw [39] (fun rD wr=>∃ i:Nat,i≤N∧rD=.int .i64 i∧Hid (Below W0.heap.size W0 wr)∧Hid (aM (fun b=>b=q) w wr)∧Hid (aB wr q [.int .i64 (m-Pt.sizes (K.take i))] 3)∧Hid (0≤m-Pt.sizes (K.take i))∧Hid (∀ j,j<i→(K.getD j default).wf (d+1)=true)) (fun rD _=>N-(intOf rD).toNat)
      (case atStart=>exact ⟨0,ay,rfl,HB3.out,Gc.out,aj (by simpa [Pt.sizes] using Tt.out),(show 0≤m-(Pt.sizes (K.take 0):Nat) by simp [Pt.sizes];exact hm0),fun j hj=>absurd hj (Nat.not_lt_zero j)⟩);case round=>
       obtain ⟨i,hi,rfl,bg,oz,LC,FW,Cu⟩:=hrel;by_cases hlt:i<N
       · have ha:=q4 ay;subst ha;have hiK:i<K.length:=(by rw [←HN.out];exact hlt);have hgd:K[i]=K.getD i default:=(by simp [List.getD,hiK]);have hr4:=qc.out i hiK;have hkp:=Lx.out i hiK;rw [hgd] at hr4 hkp;have hmem:K.getD i default∈K:=(by rw [←hgd];exact List.getElem_mem _);obtain ⟨y,hy⟩:=aC (K.getD i default);rw [←hy] at hr4 hkp hmem;obtain ⟨_,_,hLk,_,ak,ni,_,_,_,_,hgi,_⟩:=hkp.open;obtain ⟨ta,tc,hfi,_⟩:=hLk.open;rw [hfi,hgi] at hr4 hkp;obtain ⟨n1,hn1⟩:=aC y.texts.length;obtain ⟨n2,hn2⟩:=aC y.kids.length;rw [←hn1,←hn2] at hr4 hkp;clear hfi hgi hLk hn1 hn2;obtain ⟨d0,d1',Tw,LD⟩:=hr4;have d0:=aD bg.out d0;have d1':=aD bg.out d1';have Tw:=aD bg.out Tw;have LD:=aD bg.out LD;obtain ⟨wk,hwk⟩:=aC (wr.alloc (.cells #[.int .i64 y.kind,aA y.text,.slice ta n1 tc,.slice ak n2 ni] 26));have hrs:=bg.out.size;have hqr:=LC.out.lt;have wR:Below W0.heap.size W0 wk:=(by rw [hwk];exact bg.out.alloc hrs _);have Tx:aM (fun b=>b=q) w wk:=(by rw [hwk];exact oz.out.alloc _);have LH:aB wk q [.int .i64 (m-Pt.sizes (K.take i))] 3:=(by rw [hwk];exact LC.out.alloc _);have ze:aB wk wr.heap.size [.int .i64 y.kind,aA y.text,.slice ta n1 tc,.slice ak n2 ni] 26:=(by rw [hwk];exact aB.new wr _ _);obtain ⟨k0,k1,k2,k3⟩:=lg ze;obtain ⟨r,hr⟩:=aC (m-(Pt.sizes (K.take i):Nat));have hr0:=FW.out;rw [←hr] at LH hr0;have C:=IH.out y hmem W0 wk _ _ (d+1) q r hkp HT.out wR hq LH ay hr0 (by have:=HM.out;omega);rw [show ((d+1:Nat):Int)=(d:Int)+1 by omega] at C;unfold pv Ct at C;have C:=aj C;have nk:=aj wR;have Tz:=aj Tx;have HY:=aj hy;have Gi:=aj hiK;have HRR:=aj hr;clear wR Tx LH ze hkp hmem hgd hy hiK hr;(go_upto_region 7 with fail);rw [←hwk];clear hwk;cases uR:iZ y (d+1) r;{rw [uR] at C;have hno:=ae_ k t L K d n i Gi.out (by rw [←HY.out,←uR,HRR.out,HM.out]);have jr:=aj (HNF.out hno);clear hno uR;(go_wp2_with (go_at_call 113;refine C.out.mono ?_;rintro e w5 ⟨rfl,zh,Gj⟩));go_ret;exact jr.out _ (Tz.out.trans zh (fun _ _ h=>h))}
         · rw [uR] at C;unfold iZ at uR;rw [Bool.and_eq_true,decide_eq_true_eq] at uR;have zk:=aj uR;clear uR;(go_wp2_with (go_at_call 113;refine C.out.mono ?_;rintro e w5 ⟨rfl,zh,Gj⟩));have gQ:=aj zh;have FT:=aj (Gj trivial);clear zh Gj;go_roundw
           (case rel=>have hs:=Lv K i Gi.out;rw [←HY.out] at hs;refine ⟨i+1,ay,aN,nk.out.trans (gQ.out.below nk.out.size (fun k hk h=>by have h':k=q:=h;omega)),Tz.out.trans gQ.out (fun _ _ h=>h),?_,?_,fun j hj=>?_⟩;{have h:=FT.out;rw [HRR.out] at h;show aB w5 q [.int .i64 (m-(Pt.sizes (K.take (i+1)):Nat))] 3;rw [show m-(Pt.sizes (K.take (i+1)):Nat)=m-(Pt.sizes (K.take i):Nat)-(y.size:Nat) by omega];exact h};{have h1:=zk.out.2;have h2:=HRR.out;show 0≤m-((Pt.sizes (K.take (i+1)):Nat):Int);rw [hs];omega};{by_cases hji:j<i;{exact Cu.out j hji};{obtain rfl:j=i:=ay;rw [←HY.out];exact zk.out.1}});case measure=>simp [intOf];omega
       {obtain rfl:i=N:=ay;have htk:K.take i=K:=(by rw [HN.out,List.take_length]);have h0:=FW.out;rw [htk] at h0;have hyes:iZ (.mk k t L K) d n=true:=afa k t L K d n ay HKK.out iY.out (fun j hj=>Cu.out j (by rw [HN.out];exact hj)) (by rw [←HM.out];exact h0);have HQf:=aj (show aB wr q [.int .i64 (n-((Pt.mk k t L K).size:Nat))] 3 by have h:=LC.out;rw [htk] at h;rw [size_mk,show n-((1+Pt.sizes K:Nat):Int)=m-(Pt.sizes K:Nat) by have:=HM.out;omega];exact h);have HY:=aj hyes;clear htk h0 hyes;go_wp2;go_ret;exact ⟨by rw [HY.out];rfl,oz.out,fun _=>HQf.out⟩}
  {have d3:((K.length:Int) != Pt.gZ k)=true:=bne_iff_ne.2 hkk;have hno:iZ (.mk k t L K) d n=false:=(by unfold iZ;rw [oV,show decide ((K.length:Int)=Pt.gZ k)=false from decide_eq_false hkk];simp);have fE:=aj (gK.out hno);obtain ⟨kk,za⟩:=aC (Pt.gZ k);rw [←za] at d3 KI;clear hm hno hm0 hkk za;refine dP w2.heap.size aF aF ?_;(repeat (go_big_quiet_step (first | (go_at_call 145;with_reducible exact Later.lF (KI.out _)) | fail)));refine wpQuiet_nil ?_;rintro w3 ⟨p,rfl⟩;have hb3:=aj p.low;clear g0 g1 g2 g3 gq;go_wp2;go_ret;exact fE.out _ hb3.out}
theorem afc (x:Pt) (v u:Value) (w:World) (hP:fT w v u x) (hT:T8 w) :
  Calls prog 83 #[pv x v u] w fun e w'=>e=.returned (.bool x.may)∧Below w.heap.size w w':=by
 have HP:=aj hP;have HT:=aj hT;obtain ⟨k,t,L,K⟩:=x;obtain ⟨hk,_,hLk,_,ak,ni,_,_,_,_,hgi,_⟩:=hP.open;obtain ⟨ta,tc,hfi,_⟩:=hLk.open;obtain ⟨wk,hwk⟩:=aC ((w.alloc (.cells #[.int .i64 k,aA t,v,u] 26)).alloc (.cells #[.int .i64 30] 3));have wR:Below w.heap.size w wk:=by rw [hwk];exact ((Below.refl _ _).alloc aG _).alloc aH _
 have hQ:aB wk (w.heap.size+1) [.int .i64 30] 3:=by rw [hwk];exact aB.new' aH rfl
 have C:=aj (afb (.mk k t L K) w wk v u 0 (w.heap.size+1) 30 hP hT wR ay hQ ay ay ay);have nk:=aj wR;unfold Ct pv iZ at C;simp only [Pt.kind,Pt.text] at C;have hm:(Pt.mk k t L K).may=((Pt.mk k t L K).wf 0 && decide (((Pt.mk k t L K).size:Int)≤30)):=by unfold Pt.may;congr 1;rw [Bool.eq_iff_iff,decide_eq_true_iff,decide_eq_true_iff];omega
 have HM:=aj hm;obtain ⟨z,hz⟩:=aC ((Pt.mk k t L K).may);rw [←hm,←hz] at C;rw [←hz];have hX:aB wk w.heap.size [.int .i64 k,aA t,v,u] 26:=by rw [hwk];exact (aB.new w _ _).alloc _
 subst hfi;rw [hgi] at C hwk hX ⊢;obtain ⟨n1,hn1⟩:=aC ((Pt.mk k t L K).texts.length);obtain ⟨n2,hn2⟩:=aC ((Pt.mk k t L K).kids.length);rw [←hn1,←hn2] at C hwk hX ⊢;obtain ⟨c0,c1,c2,c3⟩:=lg hX;clear hm hz hQ hP wR hX hn1 hn2;unfold pv;simp only [Pt.kind,Pt.text];go_enter func83,ntmps83;go_upto_region 2 with fail
 rw [←hwk];clear hwk;go_wp2_with (go_at_call 113;refine C.out.mono ?_;rintro e w5 ⟨rfl,zh,Gj⟩)
 go_ret;exact ⟨rfl,nk.out.trans (zh.below nk.out.size (fun k hk h=>by have h':k=w.heap.size+1:=h;omega))⟩
end Go.Proofs.YtockbaekcbeenaaGreatDoor
