/-SoLaid-/
import Derived.Test.YtjaebndajhppgaaGreatDoorMfHd1
import Derived.Test.YtjaebndajhppgaaGreatDoorMfSoRTri
import Derived.Test.YtjaebndajhppgaaGreatDoorMfGFr2
import Derived.Test.YtjaebndajhppgaaGreatDoorMfGUn
import Derived.Test.YtjaebndajhppgaaGreatDoorMfBxRUnp
import Derived.Test.YtjaebndajhppgaaGreatDoorMfSoAlike
import Derived.Test.YtjaebndajhppgaaGreatDoorMfSoDecB
import Derived.Deep.RegionLaw
import Derived.Deep.RegionHeld3
import Derived.Test.YtjaebndajhppgaaGreatDoorMfPrEsc2
import Derived.Test.YtjaebndajhppgaaGreatDoorCards
import Derived.Test.YtjaebndajhppgaaGreatDoorTie
import Derived.MakeChecks
import Derived.Lay
import Derived.LaidLaws
import Derived.Lib.LaidU8T
set_option linter.unusedVariables false
set_option linter.unusedSimpArgs false
set_option maxRecDepth 100000
set_option maxHeartbeats 8000000
namespace Go.Proofs.YtjaebndajhppgaaGreatDoor
open Go.Proofs.Tryz
open Go.ChangeShapes Go.WideShapes Go.ChangeAt Go.RowKit Go.Sort
def nK (b:List Nat) (L:List TR):Prop:=∃ (s1 s2:Bx.aY) (T:List (List UInt8)) (E:List T3) (R:List TR) (k:Nat),Bx.iq b=some [s1,s2]∧2≤s2.2.length∧Fr.res s1.2=some T∧k=s2.2.getD 0 0*256+s2.2.getD 1 0∧k≤100 ∧
 So.kM T=some E∧Un (s2.2.drop 2) ((3*k:Nat):Int) ((Bn.width T.length:Nat):Int)∧So.jl (Pm.nums (s2.2.drop 2) (Bn.width T.length) (3*k)) E k=some R∧L=Tm.gu R∧So.file L=b
theorem ah3 {b:List Nat} {T:List (List UInt8)} (h:Fr.res b=some T):Fr.May T:=by unfold Fr.res at h;split at h;{cases h};{split at h;{rename_i hh;rw [←Option.some.inj h];exact hh.1};{cases h}}
theorem WK {N:List Int} {E:List T3} {m:Nat} {R:List TR} (h:So.jl N E m=some R):(∀ t∈R,Tm.aZ t=true)∧R.length≤m:=by unfold So.jl at h;split at h;{obtain rfl:=Option.some.inj h;refine ⟨fun t ht=>?_,?_⟩;{obtain ⟨j,_,e⟩:=List.mem_filterMap.1 ht;exact ag3 e};{exact Nat.le_trans (List.length_filterMap_le _ _) aI}};{cases h}
theorem FH {b:List Nat} {L:List TR} (h:nK b L):(∀ t∈L,Tm.aZ t=true)∧Tm.dR L∧L.length≤100∧So.file L=b:=by obtain ⟨s1,s2,T,E,R,k,_,_,_,_,hk,_,_,hR,rfl,hf⟩:=h;obtain ⟨h1,h2⟩:=WK hR;exact ⟨Tm.yS h1,Tm.C_ h1,Nat.le_trans (Tm.yX R) ak,hf⟩
def ah4 (b:List Nat) (w:World) (e:Ending) (w':World):Prop:=
 ((e=.returned (.tuple #[.pointer none,.int .i64 2])∧∀ L,¬ nK b L)∨∃ (p:Nat) (L:List TR),e=.returned (.tuple #[.pointer (some ⟨p,0,none⟩),.int .i64 0])∧sV w' p L∧nK b L)∧Below w.heap.size w w'
theorem FI (b:List Nat) (a:Option Addr) (m cap:Nat) (w:World) (hm:m=b.length) (jS:m≤30000) (h:bN w (.slice a m cap) b) (hb:∀ i,b.getD i 0<256) (hV:dF w) :
  Calls prog 18 #[.slice a m cap] w (ah4 b w):=by
 have UN:=aj (ahL a m cap b w hm h hb jS);have HA:=aj h;have HB:=aj hb;have HV:=aj hV;have HM:=aj hm;have l8:=aj jS;clear h hm hb hV jS;go_enter func18,ntmps18;go_wp2_with fail
 refine UN.out.mono ?_;rintro e w1 ⟨hB1,⟨ho,rfl⟩ | ⟨v,S,ho,rfl,hF⟩⟩
 · have HF:=aj (show ∀ L,¬ nK b L by rintro L ⟨s1,s2,T,E,R,k,h1,_⟩;rw [ho] at h1;cases h1);go_wp2;go_ret2
   exact ⟨.inl ⟨rfl,HF.out⟩,hB1⟩
 · have HB1:=aj hB1;have HO:=aj ho;obtain ⟨hmay,p9⟩:=Bx.xC.1 ho;obtain ⟨av,cv,rfl,hc1,hc2,_⟩:=hF.it.open;by_cases h2:S.length=2
   · obtain ⟨s1,s2,rfl⟩:∃ s1 s2,S=[s1,s2]:=by
      match S,h2 with
      | [x,y],_=>exact ⟨x,y,rfl⟩
     have tT:=aj (FE p9 HB.out (s:=s1) aI);have HL2:=aj (FE p9 HB.out (s:=s2) aI);obtain ⟨bb,off,rfl,hc⟩:=hF.it.get (i:=0) (show 0<2 by omega);obtain ⟨c00,v1,kN,hv1⟩:=hc 0 (show 0<2 by omega);obtain ⟨c10,v2,c11,hv2⟩:=hc 1 (show 1<2 by omega);have bA:=aj (show bN w1 v1 s1.2 from hv1);have dU:=aj (show bN w1 v2 s2.2 from hv2);have HFI:=aj p9;clear hF hB1 ho UN hc hv1 hv2 hmay p9 h2;simp only [Nat.zero_mul,Nat.add_zero,Nat.one_mul] at c00 kN c10 c11;change (2:Nat)≤cv at hc1;rw [show ([s1,s2]:List Bx.aY).length=2 from rfl];obtain ⟨a2,k2,e2,hk2,ajj,ajk,hrow⟩:=dU.out;obtain ⟨n2,hn2⟩:=aB s2.2.length;rw [←hn2] at e2 hk2 hrow;subst e2;have lW:=aj hn2;clear hn2;by_cases h22:n2<2
     · have hz:(n2:Int)<2:=ak;have HF:=aj (show ∀ L,¬ nK b L by rintro L ⟨s1',s2',T,E,R,k,h1,h3,_⟩;rw [HO.out] at h1;cases h1;have:=lW.out;omega);go_wp2;go_ret2
       exact ⟨.inl ⟨rfl,HF.out⟩,HB1.out⟩
     · have hz:¬ (n2:Int)<2:=ak;have RD:=aj (show Calls prog 52 #[v1] w1 fun e W'=>∃ (u:Value) (c:Nat),e=.returned (.tuple #[u,.int .i64 (c:Nat)])∧Hid ((c=2∧Fr.res s1.2=none)∨(c=0∧∃ T,Fr.res s1.2=some T∧fI W' u T))∧Below w1.heap.size w1 W' from by
        refine (ahD v1 s1.2 w1 bA.out tT.out (by have h1:=congrArg List.length HFI.out;have h2:s1.2.length≤(Bx.file [s1,s2]).length:=(by unfold Bx.file;rw [List.length_append];simp only [Bx.bodies,List.flatMap_cons,List.length_append];omega);have h3:=HM.out;have h4:=l8.out;omega)).mono ?_;rintro e W' ⟨hB2,⟨ho,rfl⟩ | ⟨T,u,ho,rfl,hT⟩⟩;{exact ⟨_,2,rfl,aj (.inl ⟨rfl,ho⟩),hB2⟩}
        · exact ⟨_,0,rfl,aj (.inr ⟨rfl,T,ho,hT⟩),hB2⟩)
       obtain ⟨ab,ao,rfl,hcc⟩:=hrow.get (i:=0) ak;have kC:=aj hcc;(go_wp2_with fail);refine RD.out.mono ?_;rintro e w2 ⟨u,c,rfl,HRR,hB2⟩;have HB2:=aj (aJ HB1.out hB2);have c11':=aD hB2 c11;obtain ⟨y0,hy0⟩:=aB (s2.2.getD 0 0);obtain ⟨y1,hy1⟩:=aB (s2.2.getD 1 0);have h0:y0<256:=(by rw [hy0];exact HL2.out 0);have h1:y1<256:=(by rw [hy1];exact HL2.out 1);have b0:w2.cell? ⟨ab,ao,none⟩=some (.int .u8 (y0:Nat)):=(by rw [hy0];exact aD hB2 (hcc 0 ak));have b1:w2.cell? ⟨ab,ao+1,none⟩=some (.int .u8 (y1:Nat)):=(by rw [hy1];exact aD hB2 (hcc 1 ak));obtain ⟨k,hk⟩:=aB (y0*256+y1);have HK:=aj (show k=s2.2.getD 0 0*256+s2.2.getD 1 0 by rw [hk,hy0,hy1]);have hor:bits .or .i64 ((y0:Int)*256) (y1:Int)=(k:Int):=(by rw [hk];exact Bv y0 y1 h0 h1);have hsh:IntKind.i64.wrap ((y0:Int)*256)=(y0:Int)*256:=IntWalk.i64_in _ ⟨ak,ak⟩;have eB:=aj hB2;have WG:(2:Int)≤(n2:Int):=ak;clear hB2 RD c00 kN c10 c11 hcc hrow hy0 hy1 hk;(go_upto_region 5 with fail);(go_quiet (fail));obtain ⟨w3,hw3⟩:=aB (w2.drewN nq);have HW3:=aj hw3;have HB3:=aj (show Below w.heap.size w w3 by rw [hw3];exact bn HB2.out nq);have WM:w3.cell? ⟨bb,off+2+1,none⟩=some (.slice (some ⟨ab,ao,none⟩) n2 k2):=(by rw [hw3];exact c11');rw [←hw3];clear hw3 b0 b1 hor hsh h0 h1 c11';by_cases hbad:c=2∨100<k
       · have HF:=aj (show ∀ L,¬ nK b L by
          rintro L ⟨s1',s2',T,E,R,k',h1,h3,h4,h5,h6,_⟩;rw [HO.out] at h1;cases h1;rcases HRR.out with ⟨_,h⟩ | ⟨h,_⟩;{rw [h] at h4;cases h4}
          · rw [←HK.out] at h5;omega)
         by_cases hc2:c=2
         · subst hc2;go_wp2;go_ret2
           exact ⟨.inl ⟨rfl,HF.out⟩,HB3.out⟩
         · have hc0:c=0:=by rcases HRR.out with ⟨h,_⟩ | ⟨h,_⟩ <;> omega
           subst hc0;have hkz:(100:Int)<(k:Int):=ak;go_wp2;go_ret2
           exact ⟨.inl ⟨rfl,HF.out⟩,HB3.out⟩
       · have hkz:¬ (100:Int)<(k:Int):=ak;have tJ:k≤100:=ak;obtain ⟨rfl,T,hres,hT⟩:c=0∧∃ T,Fr.res s1.2=some T∧fI w2 u T:=(by rcases HRR.out with ⟨h,_⟩ | h;{omega};{exact h});have pX:=aj hres;have xQ:=aj (ah3 hres);have HT:=aj (show fI w3 u T by rw [HW3.out];exact hT);clear hres hT hbad HRR;obtain ⟨a3,c3,rfl,_,_,_⟩:=HT.out.open;obtain ⟨tn,htn⟩:=aB T.length;have ajl:tn≤300:=(by rw [htn];exact xQ.out.1);have tV:=aj htn;rw [←htn] at HT ⊢;have RT:=aj (ag1 T ak (fun s hs=>by obtain ⟨i,hi,e⟩:=List.getElem_of_mem hs;have h:=(xQ.out.2 i hi).2.1;rw [←e,Fr.y9 hi];omega) w3 _ HT.out (HV.out.keep HB3.out));have ajm:=HB3;clear htn;have TP:=aj (show Calls prog 53 #[.slice a3 tn c3] w3 fun e w'=>∃ (x:Value) (ok:Bool),e=.returned (.tuple #[x,.bool ok])∧Hid ((ok=false∧So.kM T=none)∨(ok=true∧∃ E,So.kM T=some E∧bF w' x E))∧Below w3.heap.size w3 w' from by
          refine RT.out.mono ?_;rintro e w' ⟨h,hb⟩;cases ho:So.kM T with
          | none=>rw [ho] at h;exact ⟨_,_,h,aj (.inl ⟨rfl,rfl⟩),hb⟩
          | some E=>rw [ho] at h;obtain ⟨x,rfl,hE⟩:=h;exact ⟨x,_,rfl,aj (.inr ⟨rfl,E,rfl,hE⟩),hb⟩)
         clear RT;(go_wp2_with fail);refine TP.out.mono ?_;rintro e w4 ⟨x,ok,rfl,HX,hb4⟩;have aT:=aj (aJ HB3.out hb4);have K7:=aj hb4;have e11:=aD hb4 WM;obtain ⟨z,hzz⟩:=aB (n2-2);have ah5:n2=2+z:=ak;have oF:=aj (WE (k:=0) kC.out);rw [←hzz] at oF;have p8:=aj (show z=(s2.2.drop 2).length by rw [List.length_drop,←lW.out];omega);have LQ:=aj (show z≤maxLen by omega);obtain ⟨C,hC⟩:=aB (s2.2.drop 2);have HC:=aj hC;rw [←hC] at oF p8;have jY:=aj (show ∀ i,C.getD i 0<256 from fun i=>by have:=HL2.out (2+i);rw [hC];simpa [List.getD,List.getElem?_drop] using this);clear hb4 WM hC TP;have hA1:(2:Int)≤(n2:Int):=ak;have hA2:(n2:Int)≤(k2:Int):=ak;have hA3:(2:Int)≤(k2:Int):=ak;have hw1:IntKind.i64.wrap (3*(k:Int))=3*(k:Int):=IntWalk.i64_in _ ⟨ak,ak⟩;have WD:=aj (fun W=>Bb (tn:Int) W ak);rw [Int.toNat_natCast] at WD;obtain ⟨wd,hwd⟩:=aB (Bn.width tn);have rA:=aj hwd;rw [←hwd] at WD;clear hwd hzz;subst ah5;obtain ⟨fa,fc,hS,iO⟩:∃ (fa:Option Addr) (fc:Nat),(∀ W,(Instr.sliceAt 32 (.slice (some ⟨ab,ao,none⟩) (2+z) k2) (some (.int .i64 2)) none none).run prog W=.ok (.slice fa z fc) W)∧(∀ W,Below w1.heap.size w1 W→bM W fa z fun i=>.int .u8 (C.getD i 0:Nat)):=(by have uW:¬ (2+(z:Int)<2):=ak;by_cases hc2:k2=2;{have hz0:z=0:=ak;subst hc2;subst hz0;exact ⟨some ⟨ab,ao,none⟩,0,fun W=>by simp [go_sem],fun W hB=>Or.inl rfl⟩};{have hc3:¬ k2-2=0:=ak;exact ⟨some ⟨ab,ao+2,none⟩,k2-2,fun W=>by simp [go_sem,hA1,hA2,hA3,uW,hc2,hc3],fun W hB=>Or.inr ⟨ab,ao+2,rfl,fun i hi=>aD hB (oF.out i hi)⟩⟩});have UN:=aj (show ∀ W,Below w1.heap.size w1 W→Calls prog 54 #[.slice fa z fc,.int .i64 (3*(k:Int)),.int .i64 (wd:Nat)] W fun e W'=>∃ (x:Option Addr) (y cc c:Nat),e=.returned (.tuple #[.slice x y cc,.int .i64 (c:Nat)])∧Hid ((c≠0∧¬ Un C ((3*k:Nat):Int) (wd:Int))∨(c=0∧y=3*k∧Un C ((3*k:Nat):Int) (wd:Int)∧bM W' x (3*k) fun i=>.int .i64 ((Pm.nums C wd (3*k)).getD i 0)))∧Below W.heap.size W W' from fun W hB=>by
          rw [show 3*(k:Int)=((3*k:Nat):Int) by omega];by_cases hmb:mb ((3*k:Nat):Int) (wd:Int)=true;{by_cases hsz:z=Pm.size (3*k) wd;{refine (ag9 fa z fc (3*k) wd C W p8.out jY.out hmb hsz (iO W hB)).mono ?_;rintro e W' ⟨v,q,rfl,hb,h1,h2⟩;by_cases hno:Noughts C (3*k*wd) z;{obtain ⟨x,cc,rfl,rfl,hr⟩:=h1 hno;exact ⟨x,3*k,cc,0,rfl,aj (.inr ⟨rfl,rfl,⟨hmb,by rw [←p8.out,hsz];rfl,by rw [←p8.out];exact hno⟩,hr⟩),hb⟩};{obtain ⟨rfl,rfl⟩:=h2 hno;exact ⟨none,0,0,2,rfl,aj (.inl ⟨aL,fun h=>hno (by have h3:=h.2.2;rw [←p8.out] at h3;exact h3)⟩),hb⟩}};{refine (ag8 fa z fc (3*k) wd W LQ.out hmb hsz).mono ?_;rintro e W' ⟨rfl,rfl⟩;exact ⟨none,0,0,2,rfl,aj (.inl ⟨aL,fun h=>hsz (by have h3:=h.2.1;rw [←p8.out] at h3;exact h3)⟩),Below.refl _ _⟩}}
          · refine (ag7 fa z fc ((3*k:Nat):Int) (wd:Int) W (by simpa using hmb)).mono ?_;rintro e W' ⟨rfl,rfl⟩;exact ⟨none,0,0,1,rfl,aj (.inl ⟨aL,fun h=>hmb h.1⟩),Below.refl _ _⟩)
         obtain ⟨v0,hv0⟩:=aB (Value.slice (some ⟨ab,ao,none⟩) (2+z) k2);rw [←hv0] at hS e11;have hd1:Below w1.heap.size w1 w4.drew:=(aJ (show Below w1.heap.size w1 w3 by rw [HW3.out];exact bn eB.out _) K7.out).drew;clear iO oF hA1 hA2 hA3 hv0;(go_upto_region 9 with fail);go_region_held3 (fun w'=>w'.cell? ⟨bb,off+2+1,none⟩=some v0)
          (first | exact aD WO.out e11 | exact e11)
          (first
          | (go_at_call 55;with_reducible refine (WD.out _).mono ?_;rintro e w5 ⟨rfl,rfl⟩)
          | (go_at_call 54;with_reducible refine (UN.out _ hd1).mono ?_;rintro e w5 ⟨nx,ny,WQ,nc,rfl,LX,hb5⟩;have aO:=aj (aJ (show Below w.heap.size w w4.drew from aT.out.drew) hb5);have WO:=aj hb5)
          | fail)
         have zD:=aj (show (ok=false∧So.kM T=none)∨(ok=true∧∃ E,So.kM T=some E∧bF w5 x E) from by
          rcases HX.out with h | ⟨h1,E,h2,h3⟩;{exact .inl h}
          · exact .inr ⟨h1,E,h2,h3.keep (aJ (show Below w4.heap.size w4 w4.drew from (Below.refl _ _).drew) WO.out)⟩)
         clear e11 hS UN WD hd1 HX;by_cases hbad:ok=false∨nc≠0
         · have HF:=aj (show ∀ L,¬ nK b L by
            rintro L ⟨s1',s2',T',E,R,k',h1,h3,h4,h5,h6,h7,h8,_⟩;rw [HO.out] at h1;cases h1;rw [pX.out] at h4;cases h4;rw [←HK.out] at h5;subst h5;rcases hbad with h | h;{rcases zD.out with ⟨_,h9⟩ | ⟨h9,_⟩;{rw [h9] at h7;cases h7};{rw [h] at h9;cases h9}}
            · rcases LX.out with ⟨_,h9⟩ | ⟨h9,_⟩;{rw [HC.out,rA.out,tV.out] at h9;exact h9 h8}
              · exact h h9)
           cases ok
           · go_wp2;go_ret2
             exact ⟨.inl ⟨rfl,HF.out⟩,aO.out⟩
           · have hnz:((nc:Int)==0)=false:=beq_eq_false_iff_ne.2 (by rcases hbad with h | h;cases h;omega);go_wp2;go_ret2
             exact ⟨.inl ⟨rfl,HF.out⟩,aO.out⟩
         · obtain rfl:ok=true:=(by cases ok;exact absurd (Or.inl rfl) hbad;rfl);obtain rfl:nc=0:=(by by_cases h:nc=0;{exact h};{exact absurd (Or.inr h) hbad});obtain ⟨E,hE1,hE2⟩:∃ E,So.kM T=some E∧bF w5 x E:=(by rcases zD.out with ⟨h,_⟩ | ⟨_,h⟩;{cases h};{exact h});obtain ⟨rfl,hun,WS⟩:ny=3*k∧Un C ((3*k:Nat):Int) (wd:Int)∧bM w5 nx (3*k) fun i=>.int .i64 ((Pm.nums C wd (3*k)).getD i 0):=(by rcases LX.out with ⟨h,_⟩ | ⟨_,h⟩;{exact absurd rfl h};{exact h});have LY:=aj hE1;have HUN:=aj hun;have LZ:E.length≤1000∧∀ a∈E,a.2.1.length≤1000000000∧a.2.2.length≤1000000000:=(by unfold So.kM at hE1;split at hE1;{have e:=Option.some.inj hE1;refine ⟨?_,fun a ha=>?_⟩;{rw [←e];have:=List.length_filterMap_le Tm.iT T;have h2:=tV.out;omega};{rw [←e] at ha;obtain ⟨s,hs,h1⟩:=List.mem_filterMap.1 ha;obtain ⟨i,hi,h2⟩:=List.getElem_of_mem hs;have h3:=(xQ.out.2 i hi).2.1;rw [←Fr.y9 hi,h2] at h3;have h4:=agX h1;omega}};{cases hE1});have RT:=aj (ag5 (Pm.nums C wd (3*k)) E k ak nx WQ w5 x WS LZ.1 hE2 LZ.2 (HV.out.keep aO.out));clear hE1 hun LZ WS hE2 zD LX hbad;have TP:=aj (show Calls prog 56 #[.slice nx (3*k) WQ,x] w5 fun e w'=>∃ (y:Value) (ok:Bool),e=.returned (.tuple #[y,.bool ok])∧Hid ((ok=false∧So.jl (Pm.nums C wd (3*k)) E k=none)∨(ok=true∧∃ R,So.jl (Pm.nums C wd (3*k)) E k=some R∧bJ w' y (R.map aV)))∧Below w5.heap.size w5 w' from by
            refine RT.out.mono ?_;rintro e w' ⟨h,hb⟩;cases ho:So.jl (Pm.nums C wd (3*k)) E k with
            | none=>rw [ho] at h;exact ⟨_,_,h,aj (.inl ⟨rfl,rfl⟩),hb⟩
            | some R=>rw [ho] at h;obtain ⟨y,rfl,hR⟩:=h;exact ⟨y,_,rfl,aj (.inr ⟨rfl,R,rfl,hR⟩),hb⟩)
           clear RT;(go_wp2_with fail);refine TP.out.mono ?_;rintro e w6 ⟨y,ok,rfl,gD,hb⟩;have aU:=aj (aJ aO.out hb);clear hb TP;cases ok with
           | false=>
            have HF:=aj (show ∀ L,¬ nK b L by
             rintro L ⟨s1',s2',T',E',R,k',h1,h3,h4,h5,h6,h7,h8,h9,_⟩;rw [HO.out] at h1;cases h1;rw [pX.out] at h4;cases h4;rw [←HK.out] at h5;subst h5;rw [LY.out] at h7;cases h7;rcases gD.out with ⟨_,h⟩ | ⟨h,_⟩;{rw [HC.out,rA.out,tV.out] at h;rw [h] at h9;cases h9}
             · cases h)
            go_wp2;go_ret2
            exact ⟨.inl ⟨rfl,HF.out⟩,aU.out⟩
           | true=>
            obtain ⟨R,hR,rD⟩:∃ R,So.jl (Pm.nums C wd (3*k)) E k=some R∧bJ w6 y (R.map aV):=(by rcases gD.out with ⟨h,_⟩ | ⟨_,h⟩;{cases h};{exact h});obtain ⟨ay,cy,rfl,_,_,_⟩:=rD.open;rw [List.length_map] at rD ⊢;obtain ⟨L6,hRl⟩:=WK hR;have HRR:=aj hR;have SO:=aj (agJ R L6 ak w6 _ rD);have HL:=aj (Tm.yS L6);have HN:=aj (show (Tm.gu R).length≤100 from Nat.le_trans (Tm.yX R) ak);obtain ⟨L,hL⟩:=aB (Tm.gu R);have WT:=aj hL;rw [←hL] at SO HL HN;obtain ⟨rn,hrn⟩:=aB R.length;rw [←hrn] at SO ⊢;clear hR rD L6 hRl hL gD hrn;(go_wp2_with fail);refine SO.out.mono ?_;rintro e w7 ⟨v7,rfl,WU,hb⟩;have bS:=aj (aJ aU.out hb);have OF:=aj (afl L HL.out (by have:=HN.out;omega) w7 v7 WU);clear hb SO WU;(go_wp2_with fail);refine OF.out.mono ?_;rintro e w8 ⟨p,rfl,yK,hb⟩;have gP:=aj yK;have aX:=aj (aJ bS.out hb);clear hb OF yK;have RE:=aj (show ∀ W,Below w8.heap.size w8 W→Calls prog 45 #[.pointer (some ⟨p,0,none⟩)] W fun e w'=>∃ a c,e=.returned (.slice a (So.file L).length c)∧Hid ((convert 32 9 (.slice a (So.file L).length c)).run prog w'=.ok (.string (strOf (So.file L))) w')∧Below W.heap.size W w' from fun W hW=>by refine (U6 L HL.out HN.out p W (Fe gP.out hW)).mono ?_;rintro e w' ⟨v,rfl,ho,hb⟩;obtain ⟨a,c,rfl,h⟩:=Fg ho;exact ⟨a,c,rfl,aj (h.out w' (Below.refl _ _)),hb⟩);have SE:=aj (KD (xW HL.out HN.out) HB.out);have KB:=aj (fun W (hW:Below w8.heap.size w8 W)=>mP underlying32 underlying5 underlying9 W _ b (HA.out.keep (aJ aX.out hW)));have RDK:=aj (show So.file L=b→nK b L from fun h=>⟨s1,s2,T,E,R,k,HO.out,by rw [←lW.out];omega,pX.out,HK.out,tJ,LY.out,by rw [←HC.out,←tV.out,←rA.out];exact HUN.out,by rw [←HC.out,←tV.out,←rA.out];exact HRR.out,WT.out,h⟩);have RDN:=aj (show So.file L≠b→∀ L',¬ nK b L' from fun h L'=>by rintro ⟨s1',s2',T',E',R',k',h1,h3,h4,h5,h6,h7,h8,h9,rfl,h10⟩;rw [HO.out] at h1;cases h1;rw [pX.out] at h4;cases h4;rw [←HK.out] at h5;subst h5;rw [LY.out] at h7;cases h7;rw [←HC.out,←tV.out,←rA.out,HRR.out] at h9;cases h9;rw [←WT.out] at h10;exact h h10);obtain ⟨F,hF⟩:=aB (strOf (So.file L));obtain ⟨G,hG⟩:=aB (strOf b);obtain ⟨N,hN⟩:=aB ((So.file L).length);rw [←hF,←hN] at RE;rw [←hF,←hG] at SE;rw [←hG] at KB;clear hF hG hN;have pU:Below w8.heap.size w8 w8.drew:=bn (Below.refl _ _) 1;have q0:=KB.out _ pU;by_cases nJ:So.file L=b
            · have se:(F.toList==G.toList)=true:=(by rw [SE.out];exact decide_eq_true nJ);have HD:=aj (RDK.out nJ);clear nJ;(go_upto_region 16 with fail);go_region_law (first
               | (go_simp;go_at_call 45;with_reducible refine (RE.out _ pU).mono ?_;rintro e w9 ⟨a9,c9,rfl,k9,bg⟩;have q1:=k9.out;have q2:=KB.out _ (aJ pU bg))
               | fail)
              all_goals
               have aK:=aj (aJ aX.out (aJ pU bg))
               have yL:=aj (Fe gP.out (aJ pU bg))
               clear q0 q1 q2
               go_wp2
               go_ret2
               exact ⟨.inr ⟨p,L,rfl,yL.out,HD.out⟩,aK.out⟩
            · have se:(F.toList==G.toList)=false:=(by rw [SE.out];exact decide_eq_false nJ);have HF:=aj (RDN.out nJ);clear nJ;(go_upto_region 16 with fail);go_region_law (first
               | (go_simp;go_at_call 45;with_reducible refine (RE.out _ pU).mono ?_;rintro e w9 ⟨a9,c9,rfl,k9,bg⟩;have q1:=k9.out;have q2:=KB.out _ (aJ pU bg))
               | fail)
              all_goals
               have aK:=aj (aJ aX.out (aJ pU bg))
               clear q0 q1 q2
               go_wp2
               go_ret2
               exact ⟨.inl ⟨rfl,HF.out⟩,aK.out⟩
   · have hz2:((S.length:Int)==2)=false:=beq_eq_false_iff_ne.2 ak;have HF:=aj (show ∀ L,¬ nK b L by rintro L ⟨s1',s2',T,E,R,k,h1,h3,_⟩;rw [HO.out] at h1;cases h1;exact h2 rfl);clear hF hB1 ho UN hmay p9;go_wp2;go_ret2
     exact ⟨.inl ⟨rfl,HF.out⟩,HB1.out⟩
theorem WV {t:T3} (h:Tm.dD t=true):Tm.iT (So.sh t)=some t:=by
 obtain ⟨n,t,x⟩:=t;have hi:Tm.is (n:Int) t x=true:=h;have hrb:Tm.fT (Tm.aS n t x)=some (n,t,x,[]):=by unfold Tm.fT;rw [Tm.Gi hi];simp only;rw [if_pos hi];rfl
 unfold Tm.iT;show (if Lib.validD (Tm.aS n t x)=true then _ else none)=_;rw [if_pos (Tm.CK hi)];show (match Tm.fT (Tm.aS n t x) with | some (k,t',x',v)=>if v=[]∧Tm.aS k t' x'=Tm.aS n t x then some (k,t',x') else none | none=>none)=_;rw [hrb];simp
theorem WW:∀ (E:List T3),(∀ a∈E,Tm.dD a=true)→(E.map So.sh).filterMap Tm.iT=E
 | [],_=>rfl
 | a::E,h=>by
  rw [List.map_cons,List.filterMap_cons,WV (h a aI),WW E (fun b hb=>h b (by simp [hb]))]
theorem ah6 {L:List TR} (hl:∀ t∈L,Tm.aZ t=true):So.kM (So.texts L)=some (So.terms L):=by have hE:∀ a∈So.terms L,Tm.dD a=true:=fun a ha=>So.qF hl a ha;unfold So.kM So.texts;rw [if_pos,WW _ hE];intro s hs;obtain ⟨a,ha,rfl⟩:=List.mem_map.1 hs;rw [WV (hE a ha)];rfl
theorem L8 {E:List T3} {t:T3} (h:t∈E):So.nI E (So.num E t:Nat)=some t:=by obtain ⟨i,hi,e1,e2⟩:=So.qE h;unfold So.nI;rw [e1,if_pos ⟨ak,ak⟩];have:((i+1:Nat):Int).toNat-1=i:=ak;rw [this,List.getElem?_eq_getElem hi,e2]
theorem ah7 {L:List TR} (hn:L.length≤100):Pm.nums (So.packed L) (So.wid L) (3*L.length)=So.dL L:=by have hb:=Pm.FC (So.dL L) (So.wid L) (So.xD hn);rwa [←So.Lx,So.mE] at hb
theorem WX {L:List TR} (hl:∀ t∈L,Tm.aZ t=true) {i:Nat} (hi:i<L.length):So.iU (So.dL L) (So.terms L) i=some L[i]:=by
 have hI:i<(So.ids L).length:=by rw [So.gK];exact hi
 have he:(So.ids L)[i]=So.nums (So.terms L) L[i]:=by simp [So.ids]
 obtain ⟨p1,p2,p3⟩:=So.wO hl (List.getElem_mem hi);have f0:=So.vN (So.ids L) i hI 0 ak;have f1:=So.vN (So.ids L) i hI 1 ak;have f2:=So.vN (So.ids L) i hI 2 ak;rw [he] at f0 f1 f2;have g0:(So.dL L).getD (3*i) 0=(So.num (So.terms L) L[i].1:Nat):=by rw [List.getD,show (So.dL L)[3*i]?=_ from f0];rfl
 have g1:(So.dL L).getD (3*i+1) 0=(So.num (So.terms L) L[i].2.1:Nat):=by rw [List.getD,show (So.dL L)[3*i+1]?=_ from f1];rfl
 have g2:(So.dL L).getD (3*i+2) 0=(So.num (So.terms L) L[i].2.2:Nat):=by rw [List.getD,show (So.dL L)[3*i+2]?=_ from f2];rfl
 unfold So.iU;rw [g0,g1,g2,L8 p1,L8 p2,L8 p3];simp only;rw [if_pos (hl _ (List.getElem_mem hi))]
theorem ah8 {N:List Int} {E:List T3} {L:List TR} (h:∀ i (hi:i<L.length),So.iU N E i=some L[i]):(List.range L.length).filterMap (So.iU N E)=L:=by
 refine List.ext_getElem? fun k=>?_;have e:∀ m,m≤L.length→(List.range m).filterMap (So.iU N E)=L.take m:=by
  intro m;induction m with
  | zero=>intro _;simp
  | succ m ih=>intro hm;rw [List.range_succ,List.filterMap_append,ih ak,List.take_succ_eq_append_getElem ak];simp [h m ak]
 rw [e L.length aF,List.take_length]
theorem ah9 {L:List TR} (hl:∀ t∈L,Tm.aZ t=true):So.jl (So.dL L) (So.terms L) L.length=some L:=by unfold So.jl;rw [if_pos,ah8 fun i hi=>WX hl hi];intro j hj;rw [WX hl hj];rfl
theorem WY {L:List TR} (hl:∀ t∈L,Tm.aZ t=true) (hs:Tm.dR L) (hn:L.length≤100):nK (So.file L) L:=by
 have hb2:So.d_ L=[L.length / 256 % 256,L.length % 256]++So.packed L:=rfl;have ht:(So.texts L).length=(So.terms L).length:=by unfold So.texts;rw [List.length_map]
 refine ⟨(1,So.iR L),(2,So.d_ L),So.texts L,So.terms L,L,L.length,Wz hl hn,?_,Fr.Fw (So.qZ hl hn),?_,hn,ah6 hl,?_,?_,Tm.yT hl hs fun t=>Iff.rfl,rfl⟩;{show 2≤(So.d_ L).length;rw [hb2];simp};{show L.length=(So.d_ L).getD 0 0*256+(So.d_ L).getD 1 0;rw [hb2];show L.length=L.length / 256 % 256*256+L.length % 256;omega};{show Un ((So.d_ L).drop 2) _ _;rw [hb2,ht];exact So.Wn hn};{show So.jl (Pm.nums ((So.d_ L).drop 2) _ _) _ _=_;rw [hb2,ht];show So.jl (Pm.nums (So.packed L) (So.wid L) (3*L.length)) _ _=_;rw [ah7 hn];exact ah9 hl}
end Go.Proofs.YtjaebndajhppgaaGreatDoor
namespace Go.Proofs.YtjaebndajhppgaaGreatDoor
open Go.Proofs.Tryz
open Go.ChangeShapes Go.WideShapes Go.ChangeAt Go.RowKit
theorem ah_:Rows.laid_unicode_utf8_first=Lib.firstData:=aG
theorem aia:(Rows.laid_unicode_utf8_acceptRanges:DataW Unit)=Lib.acceptData:=aG
theorem aib:∃ ms,prog.underlying 176=some (.interface ms):=⟨_,underlying176⟩
theorem WZ {W:World} (h:laidMetH prog Rows.storeOfNothingRow.laid W) (hs:W.ShapedOpen prog):dF W∧cu W:=by
 have h1:laidMet prog Rows.storeOfNothingRow.laid W:=by rw [Go.MakeChecks.laidMetH_plain prog _ _ aG] at h;exact h
 have h3:=Lib.laidMet.reads h1 (n := "unicode/utf8.first") (.tail _ (.tail _ (.tail _ (.tail _ (.tail _ (.tail _ (.tail _ (.head _))))))));have h4:=Lib.laidMet.reads h1 (n := "unicode/utf8.acceptRanges") (.tail _ (.tail _ (.tail _ (.head _))));have h5:=Lib.laidMet.reads h1 (n := "strconv.ErrSyntax") (.tail _ (.tail _ (.tail _ (.tail _ (.tail _ (.head _))))));rw [ah_] at h3;rw [aia] at h4;refine ⟨⟨utf8Tabs_of_readsT (U8Types.of196 Tryz.lays196) ⟨aG,aG,aG,aG,aG,aG,aG⟩ h3 h4,?_⟩,?_⟩;{exact Go.Proofs.cell_of_shapedOpen_int (zero:=#[.int .i64 0]) (t:=3) hs (of_decide_eq_true aG) aG rfl aG aG underlying3};{obtain ⟨g,t,cs,fuel,p,hg,ht,hv,htr⟩:=h5;have hg2:prog.globalNamed "strconv.ErrSyntax" = some 4:=aG;obtain rfl:g=4:=Option.some.inj (hg.symm.trans hg2);have ht2:(prog.globals[4]?).map (·.type)=some 176:=aG;obtain rfl:t=176:=Option.some.inj (ht.symm.trans ht2);obtain ⟨ms,hms⟩:=aib;obtain ⟨_,u,v,hcs,_,_⟩:=iface_of_trod hms htr;refine ⟨.iface u v,?_,.inr ⟨u,v,rfl⟩⟩;have:=World.var?_cell hg hv 0;rw [this,←Array.getElem?_toList,hcs];rfl}
noncomputable def BX (os:Os):World:=World.laidAll prog os Rows.storeOfNothingRow.laid
theorem W9 {H:Type} {enc:TypeId×Value→H} {C:Checked} {os:Os} {f:FuncId} {fn:Func} {s:OpenSpec} {conds:List PathCond} {apart:Bool} {laid:List (String×DataW Unit)} (modest:Bool) (w0:World) (args:Array Value) (hos:w0.os=os)
  (hsh:(w0.forCall (fun _ _=>0) ⟨#[],args,[]⟩).Shaped C.prog)
  (hok:Input.okWideB C.prog (w0.forCall (fun _ _=>0) ⟨#[],args,[]⟩) f ⟨#[],args,[]⟩=true)
  (hrow:s.preRow enc C.prog fn conds apart laid (w0.forCall (fun _ _=>0) ⟨#[],args,[]⟩).memory args) :
  ∃ (w:World) (tape:Tape) (i:Input),w.os=os∧(w.forCall tape i).Shaped C.prog∧i.vars=[]∧Input.okWide C.prog (w.forCall tape i) .any w.heap.size f i ∧
   s.preRow enc C.prog fn conds apart laid (w.forCall tape i).memory i.args∧({ modest:=modest }:Assume).holds C.prog (lone (Frame.enter C.prog f i.args .normal) [] (w.forCall tape i)):=by refine ⟨w0,fun _ _=>0,⟨#[],args,[]⟩,hos,hsh,(Input.okWide_of_okWideB (base:=0) hok).1,(Input.okWide_of_okWideB hok).2,hrow,?_⟩;simp only [Assume.holds];exact ⟨aI,aI,fun _=>Modest.zero,aI,aI⟩
theorem W_ (os:Os) (args:Array Value):laidMet prog Rows.storeOfNothingRow.laid ((BX os).forCall (fun _ _=>0) ⟨#[],args,[]⟩).memory:=laidMet_laidAll _ aG aG
end Go.Proofs.YtjaebndajhppgaaGreatDoor
