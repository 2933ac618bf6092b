/-GRg6-/
import Derived.Test.YtjaebndajhppgaaGreatDoorMfHd1
import Derived.Test.YtjaebndajhppgaaGreatDoorMfGSo2
import Derived.Test.YtjaebndajhppgaaGreatDoorMfGTri
import Derived.Test.YtjaebndajhppgaaGreatDoorMfLayG
import Derived.Test.YtjaebndajhppgaaGreatDoorMfGRg5
set_option linter.unusedVariables false
set_option linter.unusedSimpArgs false
set_option maxRecDepth 100000
set_option maxHeartbeats 8000000
namespace Go.Proofs.YtjaebndajhppgaaGreatDoor
open Go.Proofs.Tryz
open Go.ChangeShapes Go.WideShapes Go.ChangeAt Go.RowKit
theorem SF {w:World} {B:Nat} {v:Value} {l:List T3} (h:w.ownsRow B 61 3 v l.length (b_ l)):bF w v l:=by have h0:=h;rcases h.2 with ⟨rfl,h2⟩ | ⟨g,cp,cur,rfl,hg,hh,hcp,hcm,_⟩;{rw [List.eq_nil_of_length_eq_zero h2];exact bF.nil w};{exact Sn h0 hcp hcm}
theorem ae7 {w:World} {B:Nat} {v:Value} {l:List T3} (h:w.ownsRow B 61 3 v l.length (b_ l)):dH B w (fun W=>bF W v l):=
 fun w'' hw=>SF (Dy h hw)
theorem ae8 (a b:T3) (w:World):(binOp .eql 61 (.agg #[.int .i64 (a.1:Nat),aA a.2.1,aA a.2.2]) (.agg #[.int .i64 (b.1:Nat),aA b.2.1,aA b.2.2])).run prog w=.ok (.bool (decide (a=b))) w:=Iu a b w
theorem pJ {W w1:World} {q:Nat} {A:List Value} {t:TypeId} {row:Option Nat} (h:aC W q A t) (hg:W.grownBy w1 row) (hne:row≠some q):aC w1 q A t:=by have hlt:=h.lt;unfold aC at h ⊢;rw [hg.block q hlt (fun e=>hne e.symm)];exact h
theorem EH {W:World} {b:Nat} {A:List Value} {t:TypeId} (h:aC W b A t):∀ ad,some (⟨b,0,none⟩:Addr)=some ad→∀ j u,A[j]?=some u→W.cell? (ad.add j)=some u:=by intro ad had j u hu;cases had;rw [gG rfl,Nat.zero_add];exact h.cell hu
theorem JC (W:World) (B:Nat) (hB:B≤W.heap.size):(W.alloc (.cells #[] 61)).ownsRow B 61 3 (.slice (some ⟨W.heap.size,0,none⟩) 0 0) 0 []:=by have h:=World.ownsRow_made W (#[]:Array Value) 0 aF (by unfold maxLen;omega) rfl (e:=61) (size:=3);obtain ⟨h1,h2⟩:=h;refine ⟨h1,?_⟩;rcases h2 with h2 | ⟨g,cap,cur,e,hg,rest⟩;{exact .inl h2};{exact .inr ⟨g,cap,cur,e,ak,rest⟩}
theorem SG (W:World) (B:Nat) (o:Obj) (hB:B≤W.heap.size):((W.drew.alloc o).alloc (.cells #[] 61)).ownsRow B 61 3 (.slice (some ⟨W.heap.size+1,0,none⟩) 0 0) 0 []:=by have h:=JC (W.drew.alloc o) B (by simp;show B≤W.heap.size+1;omega);have e:(W.drew.alloc o).heap.size=W.heap.size+1:=aI;rw [e] at h;exact h
theorem SQ (W:World) (A:List Value):aC (W.drew.alloc (.cells A.toArray 61)) W.heap.size A 61:=aC.new W.drew A 61
theorem SV (W:World) (o:Obj) (A:List Value) (t:TypeId):aC ((W.drew.alloc o).alloc (.cells A.toArray t)) (W.heap.size+1) A t:=by have h:=aC.new (W.drew.alloc o) A t;have e:(W.drew.alloc o).heap.size=W.heap.size+1:=aI;rw [e] at h;exact h
theorem SX {L:List T3} {t:T3} {i N B:Nat} {w3:World} {v3:Value} (h:w3.ownsRow B 61 3 v3 N ((([]++b_ (L.take i))++(bU t))++b_ (L.drop i))) (hN:N=(L.take i++t::L.drop i).length):dH B w3 (fun W=>bF W v3 (L.take i++t::L.drop i)):=by subst hN;refine ae7 (B:=B) ?_;rw [IY,show b_ (t::L.drop i)=(bU t)++b_ (L.drop i) from rfl,←List.append_assoc];exact h
theorem JD (L:List T3) (hl:∀ t∈L,So.dD t) (hn:L.length≤100000) (t:T3) (ht:So.dD t) (w:World) (v:Value) (hv:bF w v L) :
  Calls prog 64 #[v,qG t] w fun e w'=>∃ v',e=.returned v'∧bF w' v' (So.put So.cT L t)∧(∀ B,B≤w.heap.size→dH B w (fun W=>bF W v L)→dH B w' (fun W=>bF W v' (So.put So.cT L t)))∧Below w.heap.size w w':=by
 obtain ⟨a,cap,rfl,hc1,hc2,hc3⟩:=hv.open;have HV:=aj hv;have HL:=aj hl;obtain ⟨n,hn0⟩:=aB L.length;rw [←hn0] at HV hn hc1 ⊢;have HN:=aj hn0;have HT:=aj ht;have CP:=aj (fun (x:T3) (hx:So.dD x) W=>ae5 x t hx ht W);obtain ⟨n1,t1,x1⟩:=t;have HB1:=aj (show Below w.heap.size w (w.alloc (.cells #[.int .i64 (n1:Nat),aA t1,aA x1] 61)) from (Below.refl _ _).alloc aF _);have iL:=aj ((show aC (w.alloc (.cells #[.int .i64 (n1:Nat),aA t1,aA x1] 61)) w.heap.size [.int .i64 (n1:Nat),aA t1,aA x1] 61 from aC.new' rfl rfl));clear hv hl ht hn0;go_enter func64,ntmps64;go_upto_region 1 with fail
 show Code.wp _ _ _ _ (w.alloc (.cells #[.int .i64 (n1:Nat),aA t1,aA x1] 61));obtain ⟨wb,hwb⟩:=aB (w.alloc (.cells #[.int .i64 (n1:Nat),aA t1,aA x1] 61));rw [←hwb] at HB1 iL ⊢;clear hwb;go_wp2;go_loopg [5] n (fun gk s5 wr=>∃ (i:Nat),s5=.int .i64 i∧i≤n∧n-i≤gk∧Hid (Below wb.heap.size wb wr)∧Hid (∀ j (h:j<L.length),j<i→So.cT L[j] (n1,t1,x1)<0))
 case atStart=>exact ⟨0,aN,Nat.zero_le _,Nat.le_refl _,Below.refl _ _,aj (fun j h h2=>absurd h2 (Nat.not_lt_zero _))⟩
 case round=>
  obtain ⟨i,rfl,hin,hg,HB,jB⟩:=hrel;have JE:=aj (iL.out.keep HB.out);by_cases hlt:i<n
  · have hltz:(i:Int)<(n:Int):=ak;have JF:decide ((i:Int)<(n:Int))=true:=decide_eq_true hltz;have bK:i<L.length:=(by rw [←HN.out];exact hlt);have JG:=aj (HL.out L[i] (List.getElem_mem bK));have iJ:=aj ((HV.out.keep HB1.out).keep HB.out);obtain ⟨bl,off,hab,hrow⟩:=iJ.out.get (i:=i) bK;have HRW:=aj (hrow i bK);have qU:=aj (fun W=>CP.out L[i] JG.out W);obtain ⟨r,hr⟩:=aB (So.cT L[i] (n1,t1,x1));rw [←hr] at qU;have HR:=aj hr;obtain ⟨p,hp⟩:=aB (L[i]);rw [←hp] at HRW qU;have jy:=aj hp;clear hp hr hrow;obtain ⟨m1,u1,y1⟩:=p;have lu:=aj hab;subst hab;have qV:Hid (∀ W,Calls prog 31 #[bG (m1:Nat) u1 y1,bG (n1:Nat) t1 x1] W fun e w'=>e=.returned (.int .i64 r)∧Below W.heap.size W w'):=qU;clear qU;have c0:=HRW.out 0 ak;have c1:=HRW.out 1 ak;have c2:=HRW.out 2 ak;simp only [bU,List.getElem?_cons_zero,List.getElem?_cons_succ,Nat.add_zero] at c0 c1 c2;have k0:=fun p:Later wr.heap.size wr=>p.keep c0;have k1:=fun p:Later wr.heap.size wr=>p.keep c1;have k2:=fun p:Later wr.heap.size wr=>p.keep c2;obtain ⟨d0,d1,d2⟩:=bO JE.out;have j0:=fun p:Later wr.heap.size wr=>p.keep d0;have j1:=fun p:Later wr.heap.size wr=>p.keep d1;have j2:=fun p:Later wr.heap.size wr=>p.keep d2;by_cases hneg:r<0
    · have dn:decide (r<0)=true:=decide_eq_true hneg;(go_upto_region 2 with fail);refine fV wr.heap.size aG aG ?_;(repeat (go_big_quiet_step (first | (go_at_call 31;with_reducible exact Later.call aF (qV.out _)))));refine wpQuiet_nil ?_;rintro wq ⟨q,hq⟩;have gY:=aj (show Below wb.heap.size wb wq by rw [hq];exact aJ HB.out q.low);clear hq q k0 k1 k2 j0 j1 j2;go_wp2;go_roundg (n-(i+1))
      (case measure=>omega);case rel=>exact ⟨i+1,aN,ak,ak,gY.out,by
       show ∀ _,_;intro j h hj;rcases Nat.lt_or_ge j i with h2 | h2;{exact jB.out j h h2}
       · obtain rfl:j=i:=ak;rw [←HR.out];exact hneg⟩
    · have dn:decide (r<0)=false:=decide_eq_false hneg;(go_upto_region 2 with fail);refine fV wr.heap.size aG aG ?_;(repeat (go_big_quiet_step (first | (go_at_call 31;with_reducible exact Later.call aF (qV.out _)))));refine wpQuiet_nil ?_;clear k0 k1 k2 j0 j1 j2;rintro wq ⟨q,hq⟩;have gY:=aj (show Below wb.heap.size wb wq by rw [hq];exact aJ HB.out q.low);have dx:=aj (show Below wr.heap.size wr wq by rw [hq];exact q.low);clear hq q;have E0:=ae8 (m1,u1,y1) (n1,t1,x1);simp only at E0;by_cases hz0:((m1,u1,y1):T3)=(n1,t1,x1);{have E4:=fun W=>(E0 W).trans (by rw [decide_eq_true hz0]);clear E0;have lD:=aj (show So.put So.cT L (n1,t1,x1)=L from ae4 bK jB.out (jy.out.symm.trans hz0));(go_upto_region 4 with fail);have k0:=fun p:Later wq.heap.size wq=>p.keep (aD dx.out c0);have k1:=fun p:Later wq.heap.size wq=>p.keep (aD dx.out c1);have k2:=fun p:Later wq.heap.size wq=>p.keep (aD dx.out c2);have j0:=fun p:Later wq.heap.size wq=>p.keep (aD dx.out d0);have j1:=fun p:Later wq.heap.size wq=>p.keep (aD dx.out d1);have j2:=fun p:Later wq.heap.size wq=>p.keep (aD dx.out d2);refine fV wq.heap.size aG aG ?_;(repeat (go_big_quiet_step (first | (go_at_call 31;with_reducible exact Later.call aF (qV.out _)))));refine wpQuiet_nil ?_;rintro wq2 ⟨q,hq⟩;clear k0 k1 k2 j0 j1 j2 c0 c1 c2 d0 d1 d2;have xq:=aj (show Below wb.heap.size wb wq2 by rw [hq];exact aJ gY.out q.low);clear hq q;go_wp2;go_ret;exact ⟨_,rfl,by rw [lD.out];exact (HV.out.keep HB1.out).keep xq.out,(fun B hB hF=>by rw [lD.out];exact hF.keep (HB1.out.trans (xq.out.mono HB1.out.size))),HB1.out.trans (xq.out.mono HB1.out.size)⟩}
      · have E4:=fun W=>(E0 W).trans (by rw [decide_eq_false hz0]);clear E0;have lD:=aj (show So.put So.cT L (n1,t1,x1)=L.take i++(n1,t1,x1)::L.drop i from SB (by rw [←HN.out];exact hin) jB.out (fun h=>⟨by rw [←HR.out];exact hneg,fun e=>hz0 (jy.out.trans e)⟩));clear hz0;(go_upto_region 4 with fail);have k0:=fun p:Later wq.heap.size wq=>p.keep (aD dx.out c0);have k1:=fun p:Later wq.heap.size wq=>p.keep (aD dx.out c1);have k2:=fun p:Later wq.heap.size wq=>p.keep (aD dx.out c2);have j0:=fun p:Later wq.heap.size wq=>p.keep (aD dx.out d0);have j1:=fun p:Later wq.heap.size wq=>p.keep (aD dx.out d1);have j2:=fun p:Later wq.heap.size wq=>p.keep (aD dx.out d2);refine fV wq.heap.size aG aG ?_;(repeat (go_big_quiet_step (first | (go_at_call 31;with_reducible exact Later.call aF (qV.out _)))));refine wpQuiet_nil ?_;rintro wq2 ⟨q,hq⟩;clear k0 k1 k2 j0 j1 j2 c0 c1 c2 d0 d1 d2;have aU:=aj (show Below wb.heap.size wb wq2 by rw [hq];exact aJ gY.out q.low);have cZ:=aj (show aC wq2 w.heap.size [.int .i64 (n1:Nat),aA t1,aA x1] 61 from iL.out.keep aU.out);have hzb:=iL.out.lt;clear hq q;obtain ⟨w6,dK⟩:=aB wq2;rw [←dK] at aU cZ ⊢;clear dK;have hic:i<cap:=ak;have hA1:i≤cap:=ak;have ae9:¬ cap=i:=ak;have hA2:(i:Int)≤(cap:Int):=ak;have hA3:(n:Int)≤(cap:Int):=ak;have uW:(i:Int)≤(n:Int):=ak;have nT:=aj ((HV.out.front i ak).keep HB1.out);have oC:=aj (show bF wb (.slice (some ⟨bl,off,none⟩) i cap) (L.take i) from nT.out);have hlt1:(L.take i).length=i:=(by rw [List.length_take,←HN.out];omega);have kI:=aj (nH oC.out).2.1;have kJ:=aj (show (b_ (L.take i)).length=i*3 by rw [sM,hlt1]);have F1:=aj (fun W (hW:Below wb.heap.size wb W)=>(nH (oC.out.keep hW)).2.2);have iM:=aj (show bF wb (.slice (some ⟨bl,off+i*3,none⟩) (n-i) (cap-i)) (L.drop i) by exact (HV.out.back i ak).keep HB1.out);have uX:=aj (nH iM.out).2.1;have uY:=aj (show (b_ (L.drop i)).length=(n-i)*3 by rw [sM,←(nH iM.out).1]);have F2:=aj (fun W (hW:Below wb.heap.size wb W)=>(nH (iM.out.keep hW)).2.2);have uZ:=aj (show 0+i+1+(n-i)=(L.take i++(n1,t1,x1)::L.drop i).length by have h:=(nH iM.out).1;rw [List.length_append,List.length_cons,hlt1,←h] <;> omega);clear hlt1;obtain ⟨iS,hi0,bW,bX,bY⟩:=Ag;have iE:=aU.out.size;have JH:=cZ.out.lt;have OA:=aj (JC w6.drew wb.heap.size iE);have HA:=aj (aU.out.drew.alloc iE (.cells #[] 61));have UA:=aj (show aC (w6.drew.alloc (.cells #[] 61)) w.heap.size [.int .i64 (n1:Nat),aA t1,aA x1] 61 from cZ.out.alloc _);have OC:=aj (OA.out.alloc (.cells (bU (n1,t1,x1)).toArray 61));have HC:=aj (HA.out.alloc HA.out.size (.cells (bU (n1,t1,x1)).toArray 61));have UC:=aj (UA.out.alloc (.cells (bU (n1,t1,x1)).toArray 61));have TC:=aj (show aC ((w6.drew.alloc (.cells #[] 61)).alloc (.cells (bU (n1,t1,x1)).toArray 61)) (w6.heap.size+1) (bU (n1,t1,x1)) 61 from SV w6 _ _ _);have oD:=aj (aU.out.drew.alloc iE (.cells (bU (n1,t1,x1)).toArray 61));have OE:=aj (show ((w6.drew.alloc (.cells (bU (n1,t1,x1)).toArray 61)).alloc (.cells #[] 61)).ownsRow wb.heap.size 61 3 (.slice (some ⟨w6.heap.size+1,0,none⟩) 0 0) 0 [] from SG w6 wb.heap.size _ iE);have HE:=aj (oD.out.alloc oD.out.size (.cells #[] 61));have UE:=aj (show aC ((w6.drew.alloc (.cells (bU (n1,t1,x1)).toArray 61)).alloc (.cells #[] 61)) w.heap.size [.int .i64 (n1:Nat),aA t1,aA x1] 61 from (cZ.out.alloc _).alloc _);have TE:=aj (show aC ((w6.drew.alloc (.cells (bU (n1,t1,x1)).toArray 61)).alloc (.cells #[] 61)) w6.heap.size (bU (n1,t1,x1)) 61 from (SQ w6 _).alloc _);obtain ⟨d0,d1,d2⟩:=bO cZ.out;(go_upto_region 6 with fail);go_region_law (first
         | (refine eT (by rfl) (.tmp 34) (.tmp 37) 62 (by rfl) wb.heap.size 61 iS _ 3 40 underlying62 hi0 bW bX bY rfl aL (.slice (some ⟨w6.heap.size,0,none⟩) 0 0) 0 [] (by rfl) OA.out (some ⟨bl,off,none⟩) i cap (b_ (L.take i)) (by rfl) kI.out kJ.out (F1.out _ HA.out) (n_ _) ?b1 ?b2 ?b3 ?_
            case b1=>(unfold maxLen;omega)
            case b2=>omega
            case b3=>exact HA.out.size
            intro v1 w1 g1 g2 g3
            have G1:=aj g1
            have bT:=aj (HA.out.grown g2 HA.out.size (fun k hk=>(OA.out.lt k hk).1))
            have gN:=aj (pJ UA.out g2 (fun e=>by have:=(OA.out.lt _ e).1;omega))
            obtain ⟨k0,k1,k2⟩:=bO gN.out
            clear g1 g2 g3)
         | (refine eT (by rfl) (.tmp 34) (.tmp 37) 62 (by rfl) wb.heap.size 61 iS _ 3 40 underlying62 hi0 bW bX bY rfl aL (.slice (some ⟨w6.heap.size,0,none⟩) 0 0) 0 [] (by rfl) OC.out (some ⟨bl,off,none⟩) i cap (b_ (L.take i)) (by rfl) kI.out kJ.out (F1.out _ HC.out) (n_ _) ?b1 ?b2 ?b3 ?_
            case b1=>(unfold maxLen;omega)
            case b2=>omega
            case b3=>exact HC.out.size
            intro v1 w1 g1 g2 g3
            have G1:=aj g1
            have bT:=aj (HC.out.grown g2 HC.out.size (fun k hk=>(OC.out.lt k hk).1))
            have gN:=aj (pJ UC.out g2 (fun e=>by have:=(OC.out.lt _ e).1;omega))
            have Uq7:=aj (pJ TC.out g2 (fun e=>by simp [Value.ownBlock] at e))
            obtain ⟨k0,k1,k2⟩:=bO gN.out
            clear g1 g2 g3)
         | (refine eT (by rfl) (.tmp 34) (.tmp 37) 62 (by rfl) wb.heap.size 61 iS _ 3 40 underlying62 hi0 bW bX bY rfl aL (.slice (some ⟨w6.heap.size+1,0,none⟩) 0 0) 0 [] (by rfl) OE.out (some ⟨bl,off,none⟩) i cap (b_ (L.take i)) (by rfl) kI.out kJ.out (F1.out _ HE.out) (n_ _) ?b1 ?b2 ?b3 ?_
            case b1=>(unfold maxLen;omega)
            case b2=>omega
            case b3=>exact HE.out.size
            intro v1 w1 g1 g2 g3
            have G1:=aj g1
            have bT:=aj (HE.out.grown g2 HE.out.size (fun k hk=>(OE.out.lt k hk).1))
            have gN:=aj (pJ UE.out g2 (fun e=>by have:=(OE.out.lt _ e).1;omega))
            have iN:=aj (pJ TE.out g2 (fun e=>by simp [Value.ownBlock] at e))
            obtain ⟨k0,k1,k2⟩:=bO gN.out
            clear g1 g2 g3)
         | (refine eT (by rfl) (.tmp 38) (.tmp 40) 62 (by rfl) wb.heap.size 61 iS _ 3 40 underlying62 hi0 bW bX bY rfl aL v1 (0+i) ([]++(b_ (L.take i))) (by rfl) (G1.out.alloc _) (some ⟨w1.heap.size,0,none⟩) 1 1 (bU (n1,t1,x1)) (by rfl) (fun h=>by cases h) rfl (wS w1 (bU (n1,t1,x1)) 61) (sj (n1,t1,x1)) ?b1 ?b2 ?b3 ?_
            case b1=>(unfold maxLen;omega)
            case b2=>omega
            case b3=>exact (bT.out.alloc bT.out.size _).size
            intro v2 w2 g1 g2 g3
            have G2:=aj g1
            have fO:=aj ((bT.out.alloc bT.out.size _).grown g2 (bT.out.alloc bT.out.size _).size (fun k hk=>(G1.out.lt k hk).1))
            clear g1 g2 g3)
         | (refine eT (by rfl) (.tmp 38) (.tmp 40) 62 (by rfl) wb.heap.size 61 iS _ 3 40 underlying62 hi0 bW bX bY rfl aL v1 (0+i) ([]++(b_ (L.take i))) (by rfl) G1.out (some ⟨w6.heap.size+1,0,none⟩) 1 1 (bU (n1,t1,x1)) (by rfl) (fun h=>by cases h) rfl (EH Uq7.out) (sj (n1,t1,x1)) ?b1 ?b2 ?b3 ?_
            case b1=>(unfold maxLen;omega)
            case b2=>omega
            case b3=>exact bT.out.size
            intro v2 w2 g1 g2 g3
            have G2:=aj g1
            have fO:=aj (bT.out.grown g2 bT.out.size (fun k hk=>(G1.out.lt k hk).1))
            clear g1 g2 g3)
         | (refine eT (by rfl) (.tmp 38) (.tmp 40) 62 (by rfl) wb.heap.size 61 iS _ 3 40 underlying62 hi0 bW bX bY rfl aL v1 (0+i) ([]++(b_ (L.take i))) (by rfl) G1.out (some ⟨w6.heap.size,0,none⟩) 1 1 (bU (n1,t1,x1)) (by rfl) (fun h=>by cases h) rfl (EH iN.out) (sj (n1,t1,x1)) ?b1 ?b2 ?b3 ?_
            case b1=>(unfold maxLen;omega)
            case b2=>omega
            case b3=>exact bT.out.size
            intro v2 w2 g1 g2 g3
            have G2:=aj g1
            have fO:=aj (bT.out.grown g2 bT.out.size (fun k hk=>(G1.out.lt k hk).1))
            clear g1 g2 g3)
         | (refine eT (by rfl) (.tmp 41) (.tmp 44) 62 (by rfl) wb.heap.size 61 iS _ 3 40 underlying62 hi0 bW bX bY rfl aL v2 (0+i+1) (([]++(b_ (L.take i)))++(bU (n1,t1,x1))) (by rfl) G2.out (some ⟨bl,off+i*3,none⟩) (n-i) (cap-i) (b_ (L.drop i)) (by rfl) uX.out uY.out (F2.out _ fO.out) (n_ _) ?b1 ?b2 ?b3 ?_
            case b1=>(unfold maxLen;omega)
            case b2=>omega
            case b3=>exact fO.out.size
            intro v3 w3 g1 g2 g3
            have G3:=aj g1
            have u_:=aj (fO.out.grown g2 fO.out.size (fun k hk=>(G2.out.lt k hk).1))
            clear g1 g2 g3)
         | fail)
        all_goals
         have mo:=aj (SX (L:=L) (t:=(n1,t1,x1)) (i:=i) G3.out uZ.out)
         go_wp2
         go_ret
         exact ⟨v3,rfl,by rw [lD.out];exact mo.out.it,(fun B hB _=>by rw [lD.out];exact mo.out.mono (Nat.le_trans hB HB1.out.size)),HB1.out.trans (u_.out.mono HB1.out.size)⟩
  · obtain rfl:i=n:=ak;have hltz:¬ (i:Int)<(i:Int):=ak;have JF:decide ((i:Int)<(i:Int))=false:=decide_eq_false hltz;have lD:=aj (show So.put So.cT L (n1,t1,x1)=L.take i++(n1,t1,x1)::L.drop i from SB (by rw [←HN.out];exact hin) jB.out (fun h=>by have:=HN.out;omega));(go_upto_region 2 with fail);refine fV wr.heap.size aG aG ?_;(repeat (go_big_quiet_step (first | fail)));refine wpQuiet_nil ?_;rintro wq ⟨q,hq⟩;have gY:=aj (show Below wb.heap.size wb wq by rw [hq];exact aJ HB.out q.low);clear hq q;(go_upto_region 4 with fail);refine fV wq.heap.size aG aG ?_;(repeat (go_big_quiet_step (first | fail)));refine wpQuiet_nil ?_;rintro wq2 ⟨q,hq⟩;have aU:=aj (show Below wb.heap.size wb wq2 by rw [hq];exact aJ gY.out q.low);have cZ:=aj (show aC wq2 w.heap.size [.int .i64 (n1:Nat),aA t1,aA x1] 61 from iL.out.keep aU.out);have hzb:=iL.out.lt;clear hq q;obtain ⟨w6,dK⟩:=aB wq2;rw [←dK] at aU cZ ⊢;clear dK;have hde:L.drop i=[]:=(by rw [List.drop_eq_nil_of_le (by rw [←HN.out];exact Nat.le_refl _)]);obtain ⟨fa,fc,ba,bc,hS1,hS2,JI,hB0⟩:∃ (fa:Option Addr) (fc:Nat) (ba:Option Addr) (bc:Nat),(∀ W,(Instr.sliceAt 62 (.slice a i cap) none (some (.int .i64 (i:Int))) none).run prog W=.ok (.slice fa i fc) W)∧(∀ W,(Instr.sliceAt 62 (.slice a i cap) (some (.int .i64 (i:Int))) none none).run prog W=.ok (.slice ba 0 bc) W)∧bF wb (.slice fa i fc) (L.take i)∧bF wb (.slice ba 0 bc) (L.drop i):=(by have hA1:(i:Int)≤(cap:Int):=ak;have qW:∀ x c,c≤maxLen→(x=none→c=0)→bF wb (.slice x 0 c) (L.drop i):=fun x c h1 h2=>(by rw [hde];exact ⟨_,_,rfl,Nat.zero_le _,h1,h2,.inl rfl⟩);have iO:bF wb (.slice a i cap) (L.take i):=(by exact (HV.out.front i ak).keep HB1.out);have hz0:(0:Nat)≤maxLen:=(by unfold maxLen;omega);rcases Nat.eq_zero_or_pos i with qX | qX;{subst qX;rcases a with _ | ad;{obtain rfl:cap=0:=hc3 rfl;exact ⟨none,0,none,0,fun W=>by simp [go_sem],fun W=>by simp [go_sem],iO,qW _ _ hz0 (fun _=>rfl)⟩};{exact ⟨some ad,cap,some ad,cap,fun W=>by simp [go_sem],fun W=>by simp [go_sem],iO,qW _ _ ak (fun h=>by cases h)⟩}};{obtain ⟨bl,off,rfl,hrow⟩:=HV.out.get (i:=0) (by first | (rw [List.length_map,←HN.out];exact qX) | (rw [←HN.out];exact qX));clear hrow;by_cases hck:cap=i;{subst hck;exact ⟨some ⟨bl,off,none⟩,cap,some ⟨bl,off,none⟩,0,fun W=>by simp [go_sem],fun W=>by simp [go_sem],iO,qW _ _ hz0 (fun h=>by cases h)⟩};{have JJ:¬ cap-i=0:=ak;exact ⟨some ⟨bl,off,none⟩,cap,some ⟨bl,off+i*3,none⟩,cap-i,fun W=>by simp [go_sem,hA1],fun W=>by simp [go_sem,hA1,hck,JJ],iO,qW _ _ ak (fun h=>by cases h)⟩}});obtain ⟨v0,hv0⟩:=aB (Value.slice a i cap);rw [←hv0] at hS1 hS2 ⊢;clear hv0;have hA2:(i:Int)≤(cap:Int):=ak;have oC:=aj JI;have hlt1:(L.take i).length=i:=(by rw [List.length_take,←HN.out];omega);have kI:=aj (nH oC.out).2.1;have kJ:=aj (show (b_ (L.take i)).length=i*3 by rw [sM,hlt1]);have F1:=aj (fun W (hW:Below wb.heap.size wb W)=>(nH (oC.out.keep hW)).2.2);have iM:=aj hB0;have uX:=aj (nH iM.out).2.1;have uY:=aj (show (b_ (L.drop i)).length=0*3 by rw [sM,←(nH iM.out).1]);have F2:=aj (fun W (hW:Below wb.heap.size wb W)=>(nH (iM.out.keep hW)).2.2);have uZ:=aj (show 0+i+1+0=(L.take i++(n1,t1,x1)::L.drop i).length by have h:=(nH iM.out).1;rw [List.length_append,List.length_cons,hlt1,←h] <;> omega);clear hlt1;obtain ⟨iS,hi0,bW,bX,bY⟩:=Ag;have iE:=aU.out.size;have JH:=cZ.out.lt;have OA:=aj (JC w6.drew wb.heap.size iE);have HA:=aj (aU.out.drew.alloc iE (.cells #[] 61));have UA:=aj (show aC (w6.drew.alloc (.cells #[] 61)) w.heap.size [.int .i64 (n1:Nat),aA t1,aA x1] 61 from cZ.out.alloc _);have OC:=aj (OA.out.alloc (.cells (bU (n1,t1,x1)).toArray 61));have HC:=aj (HA.out.alloc HA.out.size (.cells (bU (n1,t1,x1)).toArray 61));have UC:=aj (UA.out.alloc (.cells (bU (n1,t1,x1)).toArray 61));have TC:=aj (show aC ((w6.drew.alloc (.cells #[] 61)).alloc (.cells (bU (n1,t1,x1)).toArray 61)) (w6.heap.size+1) (bU (n1,t1,x1)) 61 from SV w6 _ _ _);have oD:=aj (aU.out.drew.alloc iE (.cells (bU (n1,t1,x1)).toArray 61));have OE:=aj (show ((w6.drew.alloc (.cells (bU (n1,t1,x1)).toArray 61)).alloc (.cells #[] 61)).ownsRow wb.heap.size 61 3 (.slice (some ⟨w6.heap.size+1,0,none⟩) 0 0) 0 [] from SG w6 wb.heap.size _ iE);have HE:=aj (oD.out.alloc oD.out.size (.cells #[] 61));have UE:=aj (show aC ((w6.drew.alloc (.cells (bU (n1,t1,x1)).toArray 61)).alloc (.cells #[] 61)) w.heap.size [.int .i64 (n1:Nat),aA t1,aA x1] 61 from (cZ.out.alloc _).alloc _);have TE:=aj (show aC ((w6.drew.alloc (.cells (bU (n1,t1,x1)).toArray 61)).alloc (.cells #[] 61)) w6.heap.size (bU (n1,t1,x1)) 61 from (SQ w6 _).alloc _);obtain ⟨d0,d1,d2⟩:=bO cZ.out;(go_upto_region 6 with fail);go_region_law (first
     | (refine eT (by rfl) (.tmp 34) (.tmp 37) 62 (by rfl) wb.heap.size 61 iS _ 3 40 underlying62 hi0 bW bX bY rfl aL (.slice (some ⟨w6.heap.size,0,none⟩) 0 0) 0 [] (by rfl) OA.out fa i fc (b_ (L.take i)) (by rfl) kI.out kJ.out (F1.out _ HA.out) (n_ _) ?b1 ?b2 ?b3 ?_
        case b1=>(unfold maxLen;omega)
        case b2=>omega
        case b3=>exact HA.out.size
        intro v1 w1 g1 g2 g3
        have G1:=aj g1
        have bT:=aj (HA.out.grown g2 HA.out.size (fun k hk=>(OA.out.lt k hk).1))
        have gN:=aj (pJ UA.out g2 (fun e=>by have:=(OA.out.lt _ e).1;omega))
        obtain ⟨k0,k1,k2⟩:=bO gN.out
        clear g1 g2 g3)
     | (refine eT (by rfl) (.tmp 34) (.tmp 37) 62 (by rfl) wb.heap.size 61 iS _ 3 40 underlying62 hi0 bW bX bY rfl aL (.slice (some ⟨w6.heap.size,0,none⟩) 0 0) 0 [] (by rfl) OC.out fa i fc (b_ (L.take i)) (by rfl) kI.out kJ.out (F1.out _ HC.out) (n_ _) ?b1 ?b2 ?b3 ?_
        case b1=>(unfold maxLen;omega)
        case b2=>omega
        case b3=>exact HC.out.size
        intro v1 w1 g1 g2 g3
        have G1:=aj g1
        have bT:=aj (HC.out.grown g2 HC.out.size (fun k hk=>(OC.out.lt k hk).1))
        have gN:=aj (pJ UC.out g2 (fun e=>by have:=(OC.out.lt _ e).1;omega))
        have Uq7:=aj (pJ TC.out g2 (fun e=>by simp [Value.ownBlock] at e))
        obtain ⟨k0,k1,k2⟩:=bO gN.out
        clear g1 g2 g3)
     | (refine eT (by rfl) (.tmp 34) (.tmp 37) 62 (by rfl) wb.heap.size 61 iS _ 3 40 underlying62 hi0 bW bX bY rfl aL (.slice (some ⟨w6.heap.size+1,0,none⟩) 0 0) 0 [] (by rfl) OE.out fa i fc (b_ (L.take i)) (by rfl) kI.out kJ.out (F1.out _ HE.out) (n_ _) ?b1 ?b2 ?b3 ?_
        case b1=>(unfold maxLen;omega)
        case b2=>omega
        case b3=>exact HE.out.size
        intro v1 w1 g1 g2 g3
        have G1:=aj g1
        have bT:=aj (HE.out.grown g2 HE.out.size (fun k hk=>(OE.out.lt k hk).1))
        have gN:=aj (pJ UE.out g2 (fun e=>by have:=(OE.out.lt _ e).1;omega))
        have iN:=aj (pJ TE.out g2 (fun e=>by simp [Value.ownBlock] at e))
        obtain ⟨k0,k1,k2⟩:=bO gN.out
        clear g1 g2 g3)
     | (refine eT (by rfl) (.tmp 38) (.tmp 40) 62 (by rfl) wb.heap.size 61 iS _ 3 40 underlying62 hi0 bW bX bY rfl aL v1 (0+i) ([]++(b_ (L.take i))) (by rfl) (G1.out.alloc _) (some ⟨w1.heap.size,0,none⟩) 1 1 (bU (n1,t1,x1)) (by rfl) (fun h=>by cases h) rfl (wS w1 (bU (n1,t1,x1)) 61) (sj (n1,t1,x1)) ?b1 ?b2 ?b3 ?_
        case b1=>(unfold maxLen;omega)
        case b2=>omega
        case b3=>exact (bT.out.alloc bT.out.size _).size
        intro v2 w2 g1 g2 g3
        have G2:=aj g1
        have fO:=aj ((bT.out.alloc bT.out.size _).grown g2 (bT.out.alloc bT.out.size _).size (fun k hk=>(G1.out.lt k hk).1))
        clear g1 g2 g3)
     | (refine eT (by rfl) (.tmp 38) (.tmp 40) 62 (by rfl) wb.heap.size 61 iS _ 3 40 underlying62 hi0 bW bX bY rfl aL v1 (0+i) ([]++(b_ (L.take i))) (by rfl) G1.out (some ⟨w6.heap.size+1,0,none⟩) 1 1 (bU (n1,t1,x1)) (by rfl) (fun h=>by cases h) rfl (EH Uq7.out) (sj (n1,t1,x1)) ?b1 ?b2 ?b3 ?_
        case b1=>(unfold maxLen;omega)
        case b2=>omega
        case b3=>exact bT.out.size
        intro v2 w2 g1 g2 g3
        have G2:=aj g1
        have fO:=aj (bT.out.grown g2 bT.out.size (fun k hk=>(G1.out.lt k hk).1))
        clear g1 g2 g3)
     | (refine eT (by rfl) (.tmp 38) (.tmp 40) 62 (by rfl) wb.heap.size 61 iS _ 3 40 underlying62 hi0 bW bX bY rfl aL v1 (0+i) ([]++(b_ (L.take i))) (by rfl) G1.out (some ⟨w6.heap.size,0,none⟩) 1 1 (bU (n1,t1,x1)) (by rfl) (fun h=>by cases h) rfl (EH iN.out) (sj (n1,t1,x1)) ?b1 ?b2 ?b3 ?_
        case b1=>(unfold maxLen;omega)
        case b2=>omega
        case b3=>exact bT.out.size
        intro v2 w2 g1 g2 g3
        have G2:=aj g1
        have fO:=aj (bT.out.grown g2 bT.out.size (fun k hk=>(G1.out.lt k hk).1))
        clear g1 g2 g3)
     | (refine eT (by rfl) (.tmp 41) (.tmp 44) 62 (by rfl) wb.heap.size 61 iS _ 3 40 underlying62 hi0 bW bX bY rfl aL v2 (0+i+1) (([]++(b_ (L.take i)))++(bU (n1,t1,x1))) (by rfl) G2.out ba 0 bc (b_ (L.drop i)) (by rfl) uX.out uY.out (F2.out _ fO.out) (n_ _) ?b1 ?b2 ?b3 ?_
        case b1=>(unfold maxLen;omega)
        case b2=>omega
        case b3=>exact fO.out.size
        intro v3 w3 g1 g2 g3
        have G3:=aj g1
        have u_:=aj (fO.out.grown g2 fO.out.size (fun k hk=>(G2.out.lt k hk).1))
        clear g1 g2 g3)
     | fail)
    all_goals
     have mo:=aj (SX (L:=L) (t:=(n1,t1,x1)) (i:=i) G3.out uZ.out)
     go_wp2
     go_ret
     exact ⟨v3,rfl,by rw [lD.out];exact mo.out.it,(fun B hB _=>by rw [lD.out];exact mo.out.mono (Nat.le_trans hB HB1.out.size)),HB1.out.trans (u_.out.mono HB1.out.size)⟩
open Go.Sort
theorem Tryz.rainfo77:(prog.info? 77).map (fun i=>(i.zero,i.size,i.bytes))=some (some (.agg #[.int .i64 0,.int .i64 0,.int .i64 0]),3,24):=aG
theorem S9:fl []=[]:=by simp [fl,flatK]
theorem S_ (l:List Rg.T) (t:Rg.T):fl (l++[t])=fl l++tl t:=by apply List.ext_getElem?;intro j;by_cases hj:j<(l.length+1)*3;{obtain ⟨u,hu⟩:∃ u,(fl (l++[t]))[j]?=some u:=⟨_,List.getElem?_eq_getElem (by rw [qC,List.length_append];exact hj)⟩;obtain ⟨h1,rfl⟩:=DY hu;rw [hu];have hm:j % 3<3:=Nat.mod_lt _ aL;by_cases hl:j<l.length*3;{rw [List.getElem?_append_left (by rw [qC];exact hl)];have:=abU l (j / 3) (j % 3) ak hm;rw [show j / 3*3+j % 3=j by omega] at this;rw [this,List.getElem_append_left ak]};{rw [List.getElem?_append_right (by rw [qC];omega),qC];have e:j-l.length*3=j % 3:=ak;rw [e,nU t _ hm,List.getElem_append_right ak];simp}};{rw [List.getElem?_eq_none (by rw [qC,List.length_append];simp;omega),List.getElem?_eq_none (by rw [List.length_append,qC];simp [tl];omega)]}
def AB (B:Nat) (W:World) (v:Value) (L:List Rg.T):Prop:=∃ a cap,v=.slice a L.length cap∧fU W v L∧(L.length=0∨∃ g,a=some ⟨g,0,none⟩∧B≤g∧g<W.heap.size∧HoldsK tl 3 W g 0 L.toArray)
theorem AB.at {B:Nat} {W:World} {v:Value} {L:List Rg.T} (h:AB B W v L):fU W v L:=by obtain ⟨a,cap,rfl,h,_⟩:=h;exact h
theorem ae_ {W:World} {base n:Nat} {v:Value} {L:List Rg.T} (h:W.ownsRow base 77 3 v n (fl L)) (hn:n=L.length):AB base W v L:=by subst hn;have hO:=h;rcases h.2 with ⟨rfl,h0⟩ | ⟨g,cp,cur,rfl,hg,hh,hcp,hcm,_⟩;{have h1:L=[]:=List.eq_nil_of_length_eq_zero h0;subst h1;exact ⟨none,0,rfl,fU.nil W,Or.inl rfl⟩};{exact ⟨_,cp,rfl,Qq (DZ hO) hcp hcm,Or.inr ⟨g,rfl,hg,(hO.lt g rfl).2,DZ hO⟩⟩}
theorem afa {l:List Rg.T} (hl:l.Pairwise Rg.lt) (hn:l.Nodup) (c:Nat) (P:Rg.T→Bool):Rg.O ((Rg.O l c).filter P) 0=l.filter P:=by refine List.Perm.eq_of_pairwise (le:=Rg.lt) (fun a b _ _ h1 h2=>absurd h2 (Rg.lt_asymm h1)) (Rg.za _ 0 ak ?_) (hl.filter P) ((Rg.je _ 0).trans ((Rg.je l c).filter P));exact ((Rg.je l c).symm.nodup hn).filter P
theorem afb (base:Nat) (lv:Value) (M:List Rg.T) (W:World) (hO:W.ownsRow base 77 3 lv M.length (fl M)) (hM:M.length≤100) :
  Calls prog 80 #[lv,.func (.func 81) #[] #[]] W fun e w'=>e=.returned (.tuple #[])∧AB base w' lv (Rg.O M 0)∧∀ B w0,RowKit.Below B w0 W→B≤base→B≤W.heap.size→RowKit.Below B w0 w':=by have uH:=hO;rcases hO.2 with ⟨rfl,h0⟩ | ⟨g,cp,cur,rfl,hg,hh,hcp,hcm,_⟩;{have h1:M=[]:=List.eq_nil_of_length_eq_zero h0;subst h1;refine (Qs 81 0 none #[] W).mono ?_;rintro e w' ⟨rfl,rfl⟩;have e0:Rg.O [] 0=[]:=List.eq_nil_of_length_eq_zero (by rw [Rg.lQ];rfl);rw [e0];exact ⟨rfl,⟨none,0,rfl,fU.nil _,Or.inl rfl⟩,fun B w0 h _ _=>h⟩};{refine (Qr 0 81 ak #[] g cp M W (enters_of func81 aG rfl) hM (abY g _ W) (DZ uH) (uH.lt g rfl).2 hcp hcm).mono ?_;rintro e w' ⟨rfl,hI,hB,_,hH⟩;refine ⟨rfl,⟨some ⟨g,0,none⟩,cp,by rw [Rg.lQ],hI,?_⟩,fun B w0 h1 h2 h3=>hB B w0 h1 ak h3⟩;rcases Nat.eq_zero_or_pos M.length with h0 | h0;{exact Or.inl (by rw [Rg.lQ];exact h0)};{exact Or.inr ⟨g,rfl,hg,lt_of_cell (HoldsK.cell hH (i:=0) (c:=0) (by simp [Rg.lQ];exact h0) ak).1,hH⟩}}
theorem Ta (p:Nat) (l:List Rg.T) (t:Rg.T) (w:World) (h:kr w p l) (ht:∀ c,c<3→-9223372036854775808≤Rg.at' t c) :
  Calls prog 39 #[.pointer (some ⟨p,0,none⟩),tv t] w fun e w'=>∃ v,e=.returned v∧AB w.heap.size w' v (l.filter (Rg.mt t))∧Below w.heap.size w w':=by
 obtain ⟨i0,hi,hz0,hz1,hz2⟩:=info_parts Tryz.rainfo77;have HR:=aj h;have HT:=aj ht;have hcc:=(Rg.Gz t).1;have hL:=h.2.2.1;have hce:=Rg.count_eq l t;have hq:l.countP (Rg.dN t).2.2≤l.length:=List.countP_le_length;clear h ht;unfold tv;go_enter func39,ntmps39;go_upto_region 1 with fail
 obtain ⟨w1,hw1,HX,HB,HD,hz⟩:=DR w t;rw [←hw1];obtain ⟨c0,c1,c2⟩:=ko HX.out;clear hw1;have FD:=abM p l t w1 (HR.out.keep HB.out) HT.out;unfold fv tv at FD;obtain ⟨cc,AJ⟩:=aB ((Rg.dN t).1);obtain ⟨n1,hn1⟩:=aB (l.countP (Rg.dN t).2.1);obtain ⟨n2,hn2⟩:=aB (l.countP (Rg.dN t).2.2);rw [←AJ,←hn1,←hn2] at FD;rw [←AJ] at hcc;rw [←hn1,←hn2] at hce;rw [←hn2] at hq;obtain ⟨M,hM⟩:=aB ((Rg.O l cc).filter (Rg.mt t));have JK:M.length=n2-n1:=by rw [hM,hn1,hn2,AJ];exact Rg.oO t
 have Tc:∀ i (h:i<M.length),(Rg.O l cc)[n1+i]?=some M[i]:=fun i h=>by have h1:=Rg.abD HR.out.nodup t i (by rw [←hn1,←hn2,←JK];exact h);rw [←AJ,←hn1,←hM] at h1;rw [h1,List.getElem?_eq_getElem h]
 have Td:Rg.O M 0=l.filter (Rg.mt t):=by rw [hM];exact afa HR.out.1 HR.out.nodup cc _
 have HMG:=aj Tc;have HMO:=aj Td;have HML:=aj JK;clear AJ hn1 hn2 hM JK Tc Td HD;go_upto_region 4 with (go_at_call 78;refine FD.mono ?_;rintro e w2 ⟨rfl,hb2⟩)
 obtain ⟨w3,hw3,HF,HB3⟩:=wF w2 (.int .i64 cc) (.int .i64 n1) (.int .i64 n2) 131;rw [←hw3];have hz3:w3.heap.size=w2.heap.size+1:=by rw [hw3];simp
 have dw:=aj (aJ HB.out (aJ hb2 HB3.out));have hzz:=hb2.size;clear hw3 FD c0 c1 c2 hb2 HB3 HX;have k1:=HF.out.cell (i:=1) rfl;go_wp2;obtain ⟨wo,hwo⟩:∃ wo:World,wo=w3:=⟨_,rfl⟩;go_loopw [6,7] (fun s6 s7 wr=>∃ (j:Nat) (lv:Value),j≤M.length∧s7=.int .i64 (n1+j:Nat)∧s6=lv∧Hid (Below w.heap.size w wr)∧Hid (aC wr w2.heap.size [.int .i64 cc,.int .i64 n1,.int .i64 n2] 131)∧Hid (wr.ownsRow (w2.heap.size+1) 77 3 lv j (fl (M.take j)))) (fun s6 s7 _=>n2-(intOf s7).toNat)
 case atStart=>exact ⟨0,.slice none 0 0,ak,rfl,rfl,dw.out,HF.out,by rw [List.take_zero,S9];exact aj (World.ownsRow_nil _ _ _ _)⟩
 case round=>
  obtain ⟨j,lv,hj,rfl,hlv,eH,AO,HO⟩:=hrel;have hlv2:=hlv.symm;subst hlv2;have d0:=AO.out.cell (i:=0) rfl;have d2:=AO.out.cell (i:=2) rfl;have hml:=HML.out;by_cases hlt:j<M.length
  · obtain ⟨x,hx⟩:=aB (M[j]);have RW:=abR p cc (n1+j) l x wr (HR.out.keep eH.out) hcc (by rw [hx];exact HMG.out j hlt);unfold tv at RW;have hfl:fl (M.take j)++tl x=fl (M.take (j+1)):=(by rw [←S_,hx,List.take_add_one,List.getElem?_eq_getElem hlt];rfl);have jX:=aj hfl;have hbz:=eH.out.size;clear hfl hx;(go_upto_region 8 with fail);have ai0:n1+j+1≤100:=ak;go_wp2_with (first
     | (go_at_call 79;refine RW.mono ?_;rintro e w5 ⟨rfl,hb5⟩;have aO:=aj hb5;have oU:=aj (GQ HO.out hb5);clear hb5)
     | (at_builtin;refine oI rfl (.tmp 21) (.tmp 27) 79 rfl (w2.heap.size+1) 77 i0 _ 3 24 underlying79 hi hz0 hz1 hz2 rfl aL _ _ _ rfl (oU.out.alloc _) (some ⟨w5.heap.size,0,none⟩) 1 1 (tl x) rfl ?nil rfl ?news ?one ?b1 ?b2 ?base ?_))
    (case nil=>intro h;cases h);case news=>
     intro ad had k u hu;cases had;match k with
     | 0=>simp [tl] at hu;subst hu;simp [go_sem]
     | 1=>simp [tl] at hu;subst hu;simp [go_sem]
     | 2=>simp [tl] at hu;subst hu;simp [go_sem]
     | k+3=>simp [tl] at hu
    (case one=>intro u hu;simp [tl] at hu;rcases hu with rfl | rfl | rfl <;> rfl);(case b1=>unfold maxLen;omega);(case b2=>omega);(case base=>have:=aO.out.size;have:=AO.out.lt;simp;omega);intro PX w6 hown hgr hmv;rw [jX.out] at hown;have rZ:=aO.out.size;have hlt2:=AO.out.lt;have hgr5:w5.grownBy w6 lv.ownBlock:=⟨hgr.os,hgr.tape,hgr.output,by have:=hgr.size;simp at this;omega,fun k hk hne=>by rw [hgr.block k (by simp;omega) hne,RowKit.Below.heap_alloc _ _ _ hk]⟩;have lZ:∀ k,lv.ownBlock=some k→w2.heap.size+1≤k:=fun k hk=>(oU.out.lt k hk).1;have D9:aC w6 w2.heap.size [.int .i64 cc,.int .i64 n1,.int .i64 n2] 131:=(by have h:=AO.out.keep aO.out;unfold aC at *;rw [hgr5.block w2.heap.size ak (fun e=>by have:=lZ _ e.symm;omega)];exact h);have aU:RowKit.Below w.heap.size w w6:=(aJ eH.out aO.out).grown hgr5 (by have:=eH.out.size;omega) (fun k hk=>by have:=lZ k hk;have:=HB.out.size;omega);have HOWN:=aj hown;have afc:=aj D9;have afd:=aj aU;clear hown hgr hmv hgr5 lZ D9 aU oU;go_wp2;go_roundw
    (case rel=>exact ⟨j+1,_,ak,aN,rfl,afd.out,afc.out,HOWN.out⟩);case measure=>simp [intOf];omega
  {have hjm:j=M.length:=ak;have hO:=HO.out;rw [hjm,List.take_length] at hO;have SO:=afb _ lv M wr hO ak;rw [HMO.out] at SO;have ai2:¬ (n1:Int)+j<n2:=ak;clear hO HO;(go_wp2_with (go_at_call 80;refine SO.mono ?_;rintro e w6 ⟨rfl,hI6,uI⟩));go_ret;have h1:=HB.out.size;obtain ⟨a,cap,hv,h3,h4⟩:=hI6;refine ⟨_,rfl,⟨a,cap,hv,h3,?_⟩,uI _ _ eH.out ak eH.out.size⟩;rcases h4 with h4 | ⟨g,e1,e2,e3,e4⟩;{exact Or.inl h4};{exact Or.inr ⟨g,e1,ak,e3,e4⟩}}
end Go.Proofs.YtjaebndajhppgaaGreatDoor
