/-WkGot-/
import Derived.Test.YtockbaekcbeenaaGreatDoorMkHd1
import Derived.Test.YtockbaekcbeenaaGreatDoorMkWkFrom
import Derived.Test.YtockbaekcbeenaaGreatDoorMkSoLaw
import Derived.Test.YtockbaekcbeenaaGreatDoorMkSoId
set_option linter.unusedVariables false
set_option linter.unusedSimpArgs false
set_option maxRecDepth 100000
set_option maxHeartbeats 4000000
namespace Go.Proofs.YtockbaekcbeenaaGreatDoor
open Go.Proofs.Tryz
open Go.ChangeShapes Go.WideShapes Go.ChangeAt Go.RowKit
open Au
theorem agn (N:Nat) (b:Bool) (l:List Rg.T):(jM N b l).length=N+1:=by unfold jM;simp
theorem UZ (N:Nat) (b:Bool) (l:List Rg.T) (v:Nat):(jM N b l).getD v []=if v<N+1 then rowsOf b l v else []:=by unfold jM;by_cases h:v<N+1;{rw [if_pos h];simp [List.getD,h]};{rw [if_neg h,List.getD,List.getElem?_eq_none (by simp;omega)];rfl}
theorem agp (r:Rx) (i j:Nat):(fI r i j).length≤j:=L6 r i j
theorem U0 {N:Nat} {r:Rx} {TL:Nat→List Rg.T} (hr:1+r.n≤32) (hTL:∀ j,∀ t∈TL j,1≤t.1∧t.1≤N∧1≤t.2.2∧t.2.2≤N) (GA:∀ j,(TL j).length≤10000):(fu N r TL).Ok (1+r.n) 10000 where
 Vo:=by simp [fu]
 Hf:=by simp [fu]
 Vp:=by simp [fu]
 zL:=fun p=>by
  by_cases hp:p<1+r.n
  · have e:(fu N r TL).mv.getD p []=(fI r p (1+r.n)).map fun s=>(s.dest.toNat,jM N s.back (TL s.dest.toNat)):=by simp [fu,List.getD,hp]
    rw [e]
    refine ⟨by rw [List.length_map];have:=agp r p (1+r.n);omega,fun m hm=>?_⟩
    obtain ⟨s,hs,rfl⟩:=List.mem_map.1 hm
    have hmem:s∈nu r:=by
     unfold nu jL
     exact List.mem_flatMap.2 ⟨p,List.mem_range.2 hp,hs⟩
    obtain ⟨f,j,hf,hj,rfl⟩:=Gy hmem
    refine ⟨by show ((j:Nat):Int).toNat<_;rw [Int.toNat_natCast];exact hj,agn _ _ _,fun v=>?_⟩
    rw [UZ]
    by_cases hv:v<N+1
    · rw [if_pos hv]
      refine ⟨Nat.le_trans (T_ _ _ _) (GA _),fun u hu=>?_⟩
      unfold rowsOf at hu
      obtain ⟨t,ht,rfl⟩:=List.mem_map.1 hu
      obtain ⟨h1,h2,h3,h4⟩:=hTL _ t (List.mem_filter.1 ht).1
      show 1≤xw _ t∧xw _ t≤N
      unfold xw
      cases (ql r f j).back
      · simp only [Bool.false_eq_true,if_false];omega
      · simp only [if_true];omega
    · rw [if_neg hv];exact ⟨aH,fun u hu=>by cases hu⟩
  · have e:(fu N r TL).mv.getD p []=[]:=by rw [List.getD,List.getElem?_eq_none (by simp [fu];omega)];rfl
    rw [e];exact ⟨aH,fun m hm=>by cases hm⟩
def rz (L:List TR) (r:Rx) (j:Nat):List Rg.T:=lu (So.ids L) (kI (So.terms L) (fA r j).texts)
theorem MF {L:List TR} {r:Rx} {j:Nat} {t:Rg.T} (h:t∈rz L r j):t∈So.ids L:=by unfold rz lu at h;obtain ⟨x,_,hx⟩:=List.mem_flatMap.1 h;exact (List.mem_filter.1 hx).1
theorem MG {L:List TR} (hl:∀ t∈L,Tm.bf t=true) {t:Rg.T} (h:t∈So.ids L):1≤t.1∧t.1≤(So.terms L).length∧1≤t.2.2∧t.2.2≤(So.terms L).length:=by unfold So.ids at h;obtain ⟨p,hp,rfl⟩:=List.mem_map.1 h;obtain ⟨h1,h2,h3⟩:=So.Fp hl hp;obtain ⟨i,hi,e1,_⟩:=So.rV h1;obtain ⟨k,hk,e3,_⟩:=So.rV h3;unfold So.nums;simp only [e1,e3];omega
theorem agq {L:List TR} (hl:∀ t∈L,Tm.bf t=true) {z:List UInt8} (hz:∀ t∈L,t.2.1.2.1≠z):lu (So.ids L) (kI (So.terms L) [z])=[]:=by
 unfold lu kI;refine List.flatMap_eq_nil_iff.2 fun x hx=>List.filter_eq_nil_iff.2 fun t ht hm=>?_;obtain ⟨hx1,hx2⟩:=List.mem_filter.1 hx;have hxe:x=mY (So.terms L) 1 z []:=by simpa using hx1
 have hx0:x≠0:=by simpa using hx2
 unfold So.ids at ht;obtain ⟨p,hp,rfl⟩:=List.mem_map.1 ht;obtain ⟨h1,h2,h3⟩:=So.Fp hl hp;have hpe:x=So.num (So.terms L) p.2.1:=by unfold Rg.mt So.nums at hm;simp only [Bool.and_eq_true,Bool.or_eq_true,decide_eq_true_eq] at hm;rcases hm.1.2 with h | h;{omega};{omega}
 have e:mY (So.terms L) 1 z []=So.num (So.terms L) (1,z,[]):=Sz _ 1 z [];rw [hxe,e] at hpe;have hz1:((1,z,[]):T3)∈So.terms L:=So.E_.1 (by rw [←e,←hxe];omega);obtain ⟨i,hi,k1,k2⟩:=So.rV hz1;obtain ⟨j,hj,k3,k4⟩:=So.rV h2;have hij:i=j:=ay;subst hij;have hpp:p.2.1=(1,z,[]):=k4.symm.trans k2;exact hz p hp (by rw [hpp])
theorem U1 {N:Nat} {r:Rx} {TL:Nat→List Rg.T} (hT:∀ j,TL j=[]) (he:r.bZ 0=true) (a:Int) (v:Nat):(fu N r TL).Ends a v↔(a=(v:Nat)∧1≤v∧v≤N):=by
 have hs:∀ s t,t ∉ (fu N r TL).succ s:=fun s t ht=>by
  unfold Wk.Net.succ at ht;obtain ⟨m,hm,h2⟩:=List.mem_flatMap.1 ht;have hm2:∃ b j,m.2=jM N b (TL j):=by by_cases hp:s.1<1+r.n;{have e:(fu N r TL).mv.getD s.1 []=(fI r s.1 (1+r.n)).map fun s=>(s.dest.toNat,jM N s.back (TL s.dest.toNat)):=(by simp [fu,List.getD,hp]);rw [e] at hm;obtain ⟨q,_,rfl⟩:=List.mem_map.1 hm;exact ⟨_,_,rfl⟩};{have e:(fu N r TL).mv.getD s.1 []=[]:=(by rw [List.getD,List.getElem?_eq_none (by simp [fu];omega)];rfl);rw [e] at hm;cases hm}
  obtain ⟨b,j,e⟩:=hm2;unfold Wk.via at h2;rw [e,UZ,hT j] at h2;simp [rowsOf] at h2
 have hst:∀ q,(fu N r TL).st.getD q false=true↔q=0:=fun q=>by by_cases hq:q<1+r.n;{simp [fu,List.getD,hq]};{constructor;{intro h;rw [List.getD,List.getElem?_eq_none (by simp [fu];omega)] at h;cases h};{intro h;omega}}
 have hR:∀ b s,(fu N r TL).R b s→s=(0,b):=fun b s h=>by
  induction h with
  | start hp=>rw [(hst _).1 hp]
  | step _ ht _=>exact absurd ht (hs _ _)
 constructor;{rintro ⟨b,rfl,h1,h2,q,hq,_⟩;have e:=hR b _ hq;have:v=b:=congrArg Prod.snd e;subst this;exact ⟨rfl,h1,h2⟩};{rintro ⟨rfl,h1,h2⟩;refine ⟨v,rfl,h1,h2,0,.start ((hst 0).2 rfl),?_⟩;simp [fu,List.getD,he,show 0<1+r.n by omega]}
theorem U3 {N:Nat} {r:Rx} {TL:Nat→List Rg.T} (hT:∀ j,TL j=[]) (he:r.bZ 0=true) (v:Nat) (h1:1≤v) (h2:v≤N):(fu N r TL).ny (v:Nat)=[v]:=by
 unfold Wk.Net.ny;show (List.range (N+1)).filter _=_;have hf:((fu N r TL).xM (v:Nat))=fun x=>decide (x=v):=funext fun x=>by rw [Bool.eq_iff_iff,ME,U1 hT he,decide_eq_true_iff];exact ⟨fun h=>ay,fun h=>by subst h;exact ⟨rfl,h1,h2⟩⟩
 rw [hf];have:∀ n,v<n→(List.range n).filter (fun x=>decide (x=v))=[v]:=fun n=>by
  induction n with
  | zero=>intro h;omega
  | succ n ih=>intro h;rw [List.range_succ,List.filter_append];by_cases hn:v=n;{subst hn;have e:(List.range v).filter (fun x=>decide (x=v))=[]:=List.filter_eq_nil_iff.2 fun x hx=>(by have:=List.mem_range.1 hx;simp;omega);rw [e];simp};{rw [ih ay];simp [show ¬ n=v from fun e=>hn e.symm]}
 exact this (N+1) ay
theorem U4 {N:Nat} {r:Rx} {TL:Nat→List Rg.T} (hT:∀ j,TL j=[]) (he:r.bZ 0=true) (a:Int) (h:¬ (1≤a∧a≤(N:Int))):(fu N r TL).ny a=[]:=by unfold Wk.Net.ny;refine List.filter_eq_nil_iff.2 fun x _ hx=>?_;obtain ⟨h1,h2,h3⟩:=(U1 hT he _ _).1 ((ME _ _ _).1 hx);omega
theorem U5 {N:Nat} {r:Rx} {TL:Nat→List Rg.T} (hT:∀ j,TL j=[]) (he:r.bZ 0=true):∀ i,i≤N→((fu N r TL).lD i).length=i
 | 0,_=>by simp [Wk.Net.lD]
 | i+1,h=>by
  rw [UR,List.length_append,U5 hT he i ay,U3 hT he (i+1) ay h];simp
end Go.Proofs.YtockbaekcbeenaaGreatDoor
namespace Go.Proofs.YtockbaekcbeenaaGreatDoor
open Go.Proofs.Tryz
open Go.ChangeShapes Go.WideShapes Go.ChangeAt Go.RowKit
open Au
def ab:TR:=((1,[97],[]),(1,[112],[]),1,[98],[])
def ba:TR:=((1,[98],[]),(1,[112],[]),1,[97],[])
def U6:List UInt8:=[60,97,62,32,60,112,62,32,60,98,62,32,46,10,60,98,62,32,60,112,62,32,60,97,62,32,46]
theorem agr:Tm.iW U6 0 []=(0,2,[ab,ba]):=aF
theorem ags:Tm.eH [ab,ba]=[ab,ba]:=aF
theorem MH:So.terms [ab,ba]=[(1,[97],[]),(1,[98],[]),(1,[112],[])]:=aF
theorem MI:∀ t∈[ab,ba],Tm.bf t=true:=by intro t ht;simp only [List.mem_cons,List.not_mem_nil,or_false] at ht;rcases ht with rfl | rfl <;> kernel_rfl
def xO:Pt:=.mk 6 [] [] [.mk 1 [112] [] []]
theorem agt:xO.may=true:=aF
theorem C_:xO.rx false=.plus (.leaf ⟨false,false,[[112]]⟩):=by unfold xO;rw [Pt.rx,Pt.rx];rfl
theorem agu:qW xO:=afm _ (TA _)
abbrev mG:Wk.Net:=fu 3 (.plus (.leaf ⟨false,false,[[112]]⟩)) (rz [ab,ba] (.plus (.leaf ⟨false,false,[[112]]⟩)))
theorem U7:mG.succ (0,1)=[(1,2)]:=aF
theorem agv:mG.succ (1,1)=[(1,2)]:=aF
theorem U8:mG.succ (1,2)=[(1,1)]:=aF
theorem U9:mG.st=[true,false]:=aF
theorem MJ:mG.en=[false,true]:=aF
theorem k_R (s:Wk.Sp) (h:mG.R 1 s):s=(0,1)∨s=(1,1)∨s=(1,2):=by
 induction h with
 | start hp=>rename_i p;rw [U9] at hp;rcases p with _ | _ | p;{exact Or.inl rfl};{cases hp};{simp [List.getD] at hp}
 | step _ ht ih=>rcases ih with rfl | rfl | rfl;{rw [U7] at ht;exact Or.inr (Or.inr (List.mem_singleton.1 ht))};{rw [agv] at ht;exact Or.inr (Or.inr (List.mem_singleton.1 ht))};{rw [U8] at ht;exact Or.inr (Or.inl (List.mem_singleton.1 ht))}
theorem agw (v:Nat):mG.Ends ((1:Nat):Int) v↔(v=1∨v=2):=by have h0:mG.R 1 (0,1):=.start (by rw [U9];rfl);have h2:mG.R 1 (1,2):=.step h0 (by rw [U7];simp);have h1:mG.R 1 (1,1):=.step h2 (by rw [U8];simp);constructor;{rintro ⟨b,hb,_,_,q,hq,he⟩;have:b=1:=ay;subst this;rcases k_R _ hq with h | h | h;{cases h;rw [MJ] at he;cases he};{cases h;exact Or.inl rfl};{cases h;exact Or.inr rfl}};{rintro (rfl | rfl);{exact ⟨1,rfl,aL,by show 1≤3;decide,1,h1,by rw [MJ];rfl⟩};{exact ⟨1,rfl,aL,by show 1≤3;decide,1,h2,by rw [MJ];rfl⟩}}
theorem agx:mG.ny ((1:Nat):Int)=[1,2]:=by
 unfold Wk.Net.ny;have hf:mG.xM ((1:Nat):Int)=fun x=>decide (x=1∨x=2):=funext fun x=>by rw [Bool.eq_iff_iff,ME,agw,decide_eq_true_iff]
 rw [hf];rfl
theorem agy (v u:Value) (l k:List Nat) (w:World) (hv:jq w v l) (hu:jq w u k):Calls prog 20 #[v,u] w fun e w'=>e=.returned (.bool (decide (l=k)))∧Below w.heap.size w w':=by
 obtain ⟨a,ca,rfl,h1,h2,h3,h4⟩:=hv;obtain ⟨b,cb,rfl,g1,g2,g3,g4⟩:=hu;obtain ⟨n,hn0⟩:=aC l.length;obtain ⟨m,hm0⟩:=aC k.length;have HN:=aj hn0;have HM:=aj hm0;have HA:=aj h4;have HB:=aj g4;rw [←hn0] at h1 h3 ⊢;rw [←hm0] at g1 g3 ⊢;clear hn0 hm0 h3 g3 h4 g4;by_cases hnm:n=m
 · subst hnm;have hne:¬ (n:Int)≠(n:Int):=ay;have hn6:n≤9223372036854775807:=(by unfold maxLen at h2;omega);go_enter func20,ntmps20;go_wp2;go_loopg [5] n (fun gk s5 wr=>∃ i:Nat,s5=.int .i64 i∧i≤n∧n-i≤gk∧Hid (Below w.heap.size w wr)∧Hid (∀ j,j<i→l.getD j 0=k.getD j 0))
   (case atStart=>exact ⟨0,rfl,ay,ay,Below.refl _ _,aj fun j hj=>absurd hj (Nat.not_lt_zero _)⟩);case round=>
    obtain ⟨i,rfl,hi,hg,bg,HE⟩:=hrel;by_cases hlt:i<n
    · have hltz:(i:Int)<(n:Int):=ay;have hil:i<l.length:=(by rw [←HN.out];exact hlt);have hik:i<k.length:=(by rw [←HM.out];exact hlt);obtain ⟨b1,o1,rfl,r1⟩:=gM.get HA.out hil;obtain ⟨b2,o2,rfl,r2⟩:=gM.get HB.out hik;have e1:=aD bg.out (r1 i hil);have e2:=aD bg.out (r2 i hik);obtain ⟨x,hx⟩:=aC (l.getD i 0);obtain ⟨y,hy⟩:=aC (k.getD i 0);rw [←hx] at e1;rw [←hy] at e2;have HX:=aj hx;have HY:=aj hy;clear hx hy r1 r2;by_cases hxy:x=y
      · subst hxy;go_wp2;(go_quiet (fail));go_wp2;go_roundg (n-(i+1))
        (case measure=>omega);case rel=>exact ⟨i+1,aN,ay,ay,bV bg.out _,aj fun j hj=>by
         by_cases hji:j=i;{subst hji;rw [←HX.out,←HY.out]}
         · exact HE.out j ay⟩
      {have hxz:(x:Int)≠(y:Int):=ay;go_wp2;(go_quiet (fail));go_wp2;go_ret;exact ⟨by rw [decide_eq_false (fun h=>hxy (by rw [HX.out,HY.out,h]))];rfl,bV bg.out _⟩}
    {obtain rfl:n=i:=ay;have hltz:¬ (n:Int)<(n:Int):=ay;have hlk:l=k:=(by refine List.ext_getElem (by rw [←HN.out,←HM.out]) fun j h1 h2=>?_;have:=HE.out j (by rw [HN.out];exact h1);simpa [List.getD,h1,h2] using this);have HLK:=aj hlk;clear hlk;go_wp2;go_ret;exact ⟨by rw [decide_eq_true HLK.out];rfl,bg.out⟩}
 {have hne:(n:Int)≠(m:Int):=ay;go_enter func20,ntmps20;go_wp2;go_ret;exact ⟨by rw [decide_eq_false (fun h=>hnm (by rw [HN.out,HM.out,h]))];rfl,Below.refl _ _⟩}
theorem agz (w:World) (hV:d9 w) (hE:cu w) (FC:∀ (W:World) (sp b:Nat),ji W sp [ab,ba]→d9 W→aB W b [.int .i64 1,aA [112],.slice none 0 0,.slice none 0 0] 26 →
  Calls prog 15 #[.pointer (some ⟨sp,0,none⟩),.agg #[.int .i64 6,aA [],.slice none 0 0,.slice (some ⟨b,0,none⟩) 1 1],.int .i64 1] W fun e w'=>∃ vv,e=.returned (.tuple #[vv,.int .i64 0])∧jq w' vv [1,2]∧Below W.heap.size W w') :
  Calls prog 19 #[] w fun e w'=>e=.returned (.bool true)∧Below w.heap.size w w':=by
 have L1:=aj (fun W hV hE=>Sw U6 W hV hE aL (0,2,[ab,ba]) agr (fun _=>⟨MI,aH⟩));have SM:=aj fun W v u (hv:jq W v [1,2]) (hu:jq W u [1,2])=>(show Calls prog 20 #[v,u] W fun e w'=>e=.returned (.bool true)∧Below W.heap.size W w' from by have h:=agy v u [1,2] [1,2] W hv hu;rw [decide_eq_true rfl] at h;exact h);have HV:=aj hV;have HE:=aj hE;have HF:=aj FC;clear hV hE FC;go_enter func19,ntmps19;go_upto_region 4 with (go_at_call 34;refine (L1.out _ HV.out HE.out).mono ?_;rintro e w1 ⟨⟨p,rfl,hS⟩,hB⟩;have wD:=aj hS;have HB1:=aj hB;clear hS hB)
 have HS:=aj (show ji w1 p [ab,ba] from by have h:=wD.out;rw [show Tm.eH (0,2,[ab,ba]).2.2=[ab,ba] from ags] at h;exact h);obtain ⟨kb,hkb⟩:=aC w1.heap.size;obtain ⟨w2,hw2⟩:=aC (w1.alloc (.cells #[.int .i64 1,aA [112],.slice none 0 0,.slice none 0 0] 26));have hb2:Below w1.heap.size w1 w2:=by rw [hw2];exact (Below.refl _ _).alloc aG _
 have dZ:=aj (show aB w2 kb [.int .i64 1,aA [112],.slice none 0 0,.slice none 0 0] 26 from by rw [hw2,hkb];exact aB.new _ _ _);have HS2:=aj (HS.out.keep hb2);have HB2:=aj (aI HB1.out hb2);have dK:=aj (HV.out.keep HB2.out);have F2:=aj (HF.out w2 p kb HS2.out dK.out dZ.out);have F3:=F2.out;rw [hw2,hkb] at F3;have F3:=aj F3;have HB2:=aj (show Below w.heap.size w (w1.alloc (.cells #[.int .i64 1,aA [112],.slice none 0 0,.slice none 0 0] 26)) from by rw [←hw2];exact HB2.out);clear F2 hw2 hkb hb2 dZ HS2 dK wD HS;go_upto_region 5 with (go_at_call 15;refine F3.out.mono ?_;rintro e w3 ⟨vv,rfl,hv3,hb3⟩;have HB3:=aj (aI HB2.out hb3);have fU:=aj hv3;clear hv3 hb3)
 obtain ⟨sb,hsb⟩:=aC w3.heap.size;obtain ⟨w4,hw4⟩:=aC (w3.alloc (.cells #[.int .i64 1,.int .i64 2] 3));have hb4:Below w3.heap.size w3 w4:=by rw [hw4];exact (Below.refl _ _).alloc aG _
 have jy:=aj (show aB w4 sb [.int .i64 1,.int .i64 2] 3 from by rw [hw4,hsb];exact aB.new _ _ _);have S4:=SM.out w4 vv (.slice (some ⟨sb,0,none⟩) 2 2) (fU.out.keep hb4) ⟨_,2,rfl,Nat.le_refl _,by unfold maxLen;omega,fun e=>(by cases e),Or.inr ⟨sb,0,rfl,fun i hi=>by
  have hi2:i<2:=hi;rcases i with _ | _ | i;{exact jy.out.cell (i:=0) rfl};{exact jy.out.cell (i:=1) rfl}
  · omega⟩⟩
 have aP:=aj (aI HB3.out hb4);rw [hw4,hsb] at S4;have S5:=aj S4;have aQ:=aj (show Below w.heap.size w (w3.alloc (.cells #[.int .i64 1,.int .i64 2] 3)) from by rw [←hw4];exact aP.out);clear hw4 hsb hb4 S4 jy;go_wp2_with (go_at_call 20;refine S5.out.mono ?_;rintro e w5 ⟨rfl,hb5⟩;have aR:=aj (aI aQ.out hb5);clear hb5)
 go_ret;exact ⟨rfl,aR.out⟩
end Go.Proofs.YtockbaekcbeenaaGreatDoor
namespace Go.Proofs.YtockbaekcbeenaaGreatDoor
open Go.Proofs.Tryz
open Go.ChangeShapes Go.WideShapes Go.ChangeAt Go.RowKit
open Au
theorem G5 (r:Rx) (j:Nat):fA r j∈r.bR∨((fA r j).not=false∧(fA r j).texts=[]):=by
 unfold fA;cases j with
 | zero=>exact Or.inr ⟨rfl,rfl⟩
 | succ j=>rw [List.getD_cons_succ];by_cases hj:j<r.bR.length;{rw [show r.bR.getD j default=r.bR[j] by simp [List.getD,hj]];exact Or.inl (List.getElem_mem hj)};{rw [show r.bR.getD j default=default by simp [List.getD,List.getElem?_eq_none (Nat.le_of_not_lt hj)]];exact Or.inr ⟨rfl,rfl⟩}
theorem ML {L:List TR} {r:Rx} (hn:L.length≤100) (ht:∀ l∈r.bR,l.texts.length≤100) (j:Nat):(rz L r j).length≤10000:=by
 unfold rz;have h1:=TV (So.ids L) (kI (So.terms L) (fA r j).texts) (by rw [So.pO];exact hn);have h2:=TY (So.terms L) (fA r j).texts;have h3:(fA r j).texts.length≤100:=by rcases G5 r j with h | ⟨_,h⟩;{exact ht _ h};{rw [h];simp}
 have:(kI (So.terms L) (fA r j).texts).length*100≤100*100:=Nat.mul_le_mul_right _ ay;omega
theorem U_ {W:World} {sp:Nat} {L:List TR} (x:Pt) (v u:Value) (hs:ji W sp L) (hl:∀ t∈L,Tm.bf t=true) (hn:L.length≤100) (hN:(So.terms L).length≤1000) (hP:fT W v u x) (xB:T8 W) (hm:x.may=true) (hc:Rx.cnt (x.rx false)≤200) (hA:qW x)
  (hpos:∀ l∈(x.rx false).bR,l.not=false) (ht:∀ l∈(x.rx false).bR,l.texts.length≤100) (ht2:∀ l∈(x.rx false).bR,∀ i,(l.texts.getD i []).length≤1000000000) :
  uX (some ⟨sp,0,none⟩) x v u (fu (So.terms L).length (x.rx false) (rz L (x.rx false))) (1+(x.rx false).n) W:=by
 unfold uX;refine afL x v u (rz L (x.rx false)) hs ay hP xB hm hc hA hN (fun j t h=>MG hl (MF h)) (fun j=>by have:=ML hn ht j;omega) (fun W' s vv hB hmem hTx=>?_);obtain ⟨f,j,hf,hj,rfl⟩:=Gy hmem;have hnot:(ql (x.rx false) f j).not=false:=by show (fA (x.rx false) j).not=false;rcases G5 (x.rx false) j with h | ⟨h,_⟩;{exact hpos _ h};{exact h}
 have hlen:(ql (x.rx false) f j).texts.length≤300:=by show (fA (x.rx false) j).texts.length≤300;rcases G5 (x.rx false) j with h | ⟨_,h⟩;{have:=ht _ h;omega};{rw [h];simp}
 have agA:∀ i,((ql (x.rx false) f j).texts.getD i []).length≤1000000000:=fun i=>by show ((fA (x.rx false) j).texts.getD i []).length≤_;rcases G5 (x.rx false) j with h | ⟨_,h⟩;{exact ht2 _ h i};{rw [h];simp}
 have h:=afB sp L hl ay (ql (x.rx false) f j) vv W' (hs.keep hB) hnot hTx hlen agA;have e:(ql (x.rx false) f j).dest.toNat=j:=by show ((j:Nat):Int).toNat=j;rw [Int.toNat_natCast]
 rw [e];exact h
theorem Va {W:World} {b:Nat} {x:Pt} {v u:Value} (k:Int) (hk:-9223372036854775808≤k∧k≤9223372036854775807) (h:aB W b [.int .i64 x.kind,aA x.text,v,u] 26) (hP:fT W v u x):fT W (.slice none 0 0) (.slice (some ⟨b,0,none⟩) 1 1) (.mk k [] [] [x]):=by refine .mk k [] [] [x] _ _ 1 b 0 (fun _=>v) (fun _=>u) hk aH (dQ.nil _) (fun i=>aH) aG (by unfold maxLen;omega) (fun h=>by cases h) (fun _=>rfl) (fun i hi=>?_) (fun i hi=>?_);{obtain rfl:i=0:=(by simp at hi;omega);exact ⟨h.cell rfl,h.cell rfl,h.cell rfl,h.cell rfl⟩};{obtain rfl:i=0:=(by simp at hi;omega);exact hP}
theorem agB (W:World) (sp b:Nat) (hs:ji W sp [ab,ba]) (hV:d9 W) (hb:aB W b [.int .i64 1,aA [112],.slice none 0 0,.slice none 0 0] 26) :
  Calls prog 15 #[.pointer (some ⟨sp,0,none⟩),.agg #[.int .i64 6,aA [],.slice none 0 0,.slice (some ⟨b,0,none⟩) 1 1],.int .i64 1] W fun e w'=>∃ vv,e=.returned (.tuple #[vv,.int .i64 0])∧jq w' vv [1,2]∧Below W.heap.size W w':=by
 have hG:∀ W',Below W.heap.size W W'→uX (some ⟨sp,0,none⟩) xO (.slice none 0 0) (.slice (some ⟨b,0,none⟩) 1 1) mG 2 W':=fun W' hB=>by
  have h:=U_ (W:=W') xO (.slice none 0 0) (.slice (some ⟨b,0,none⟩) 1 1) (hs.keep hB) MI aH (by rw [MH];simp) (Va (x:=.mk 1 [112] [] []) 6 ay (hb.keep hB) (TQ W' [112] aH)) (hV.keep hB).1 agt (by rw [C_];decide +kernel) agu
   (by rw [C_];intro l hl;simp [Rx.bR] at hl;subst hl;rfl) (by rw [C_];intro l hl;simp [Rx.bR] at hl;subst hl;simp) (by rw [C_];intro l hl i;simp [Rx.bR] at hl;subst hl;rcases i with _ | i <;> simp)
  rw [C_,MH] at h;exact h
 have hok:mG.Ok 2 10000:=U0 (r:=.plus (.leaf ⟨false,false,[[112]]⟩)) aL (fun j t h=>by have:=MG MI (MF h);rw [MH] at this;exact this) (fun j=>ML aH (by intro l hl;simp [Rx.bR] at hl;subst hl;simp) j);refine (UQ (some ⟨sp,0,none⟩) xO (.slice none 0 0) (.slice (some ⟨b,0,none⟩) 1 1) 1 W hG hok aL (by show 3≤1000;decide) aL).mono ?_;rintro e w' ⟨vv,E,rfl,hv,hE,hb⟩;refine ⟨vv,rfl,?_,hb⟩;rw [MC hE] at hv;have h:jq w' vv (mG.ny ((1:Nat):Int)):=hv;rw [agx] at h;exact h
end Go.Proofs.YtockbaekcbeenaaGreatDoor
