/-GPut2-/
import Derived.Test.YtjaebndajhppgaaGreatDoorMfHd1
import Derived.Test.YtjaebndajhppgaaGreatDoorMfGSo2
set_option linter.unusedVariables false
set_option linter.unusedSimpArgs false
set_option maxRecDepth 100000
set_option maxHeartbeats 8000000
namespace Go.Proofs.YtjaebndajhppgaaGreatDoor
open Go.Proofs.Tryz
open Go.ChangeShapes Go.WideShapes Go.ChangeAt Go.RowKit
theorem pQ {W w1:World} {q:Nat} {A:List Value} {t:TypeId} {row:Option Nat} (h:aC W q A t) (hg:W.grownBy w1 row) (hne:row≠some q):aC w1 q A t:=by have hlt:=h.lt;unfold aC at h ⊢;rw [hg.block q hlt (fun e=>hne e.symm)];exact h
theorem Fb {W:World} {b:Nat} {A:List Value} {t:TypeId} (h:aC W b A t):∀ ad,some (⟨b,0,none⟩:Addr)=some ad→∀ j u,A[j]?=some u→W.cell? (ad.add j)=some u:=by intro ad had j u hu;cases had;rw [gG rfl,Nat.zero_add];exact h.cell hu
theorem KS (W:World) (B:Nat) (hB:B≤W.heap.size):(W.alloc (.cells #[] 67)).ownsRow B 67 9 (.slice (some ⟨W.heap.size,0,none⟩) 0 0) 0 []:=by have h:=World.ownsRow_made W (#[]:Array Value) 0 aF (by unfold maxLen;omega) rfl (e:=67) (size:=9);obtain ⟨h1,h2⟩:=h;refine ⟨h1,?_⟩;rcases h2 with h2 | ⟨g,cap,cur,e,hg,rest⟩;{exact .inl h2};{exact .inr ⟨g,cap,cur,e,ak,rest⟩}
theorem Vf (W:World) (B:Nat) (o:Obj) (hB:B≤W.heap.size):((W.drew.alloc o).alloc (.cells #[] 67)).ownsRow B 67 9 (.slice (some ⟨W.heap.size+1,0,none⟩) 0 0) 0 []:=by have h:=KS (W.drew.alloc o) B (by simp;show B≤W.heap.size+1;omega);have e:(W.drew.alloc o).heap.size=W.heap.size+1:=aI;rw [e] at h;exact h
theorem Vg (W:World) (A:List Value):aC (W.drew.alloc (.cells A.toArray 67)) W.heap.size A 67:=aC.new W.drew A 67
theorem Vh (W:World) (o:Obj) (A:List Value) (t:TypeId):aC ((W.drew.alloc o).alloc (.cells A.toArray t)) (W.heap.size+1) A t:=by have h:=aC.new (W.drew.alloc o) A t;have e:(W.drew.alloc o).heap.size=W.heap.size+1:=aI;rw [e] at h;exact h
theorem Vi {L:List TR} {t:TR} {i N B:Nat} {w3:World} {v3:Value} (h:w3.ownsRow B 67 9 v3 N ((([]++bR (L.take i))++(aV t).cells)++bR (L.drop i))) (hN:N=(L.take i++t::L.drop i).length):bJ w3 v3 ((L.take i++t::L.drop i).map aV):=by subst hN;refine Ay (B:=B) ?_;rw [ae3,show bR (t::L.drop i)=(aV t).cells++bR (L.drop i) from rfl,←List.append_assoc];exact h
theorem agH (L:List TR) (hl:∀ t∈L,Tm.aZ t=true) (hn:L.length≤100000) (t:TR) (ht:Tm.aZ t=true) (w:World) (v:Value) (hv:bJ w v (L.map aV)) :
  Calls prog 66 #[v,qm t] w fun e w'=>∃ v',e=.returned v'∧bJ w' v' ((Tm.put L t).map aV)∧Below w.heap.size w w':=by
 obtain ⟨a,cap,rfl,hc1,hc2,hc3⟩:=hv.open;have HV:=aj hv;have HL:=aj hl;rw [List.length_map] at HV hc1 ⊢;obtain ⟨n,hn0⟩:=aB L.length;rw [←hn0] at HV hn hc1 ⊢;have HN:=aj hn0;have HT:=aj ht;have CP:=aj (fun (x:TR) (hx:Tm.aZ x=true) W=>ae0 x t hx ht W);obtain ⟨⟨n1,t1,x1⟩,⟨n2,t2,x2⟩,n3,t3,x3⟩:=t;have HB1:=aj (show Below w.heap.size w (aW w n1 t1 x1 n2 t2 x2 n3 t3 x3) from (Below.refl _ _).alloc aF _);have iL:=aj (f_ w n1 t1 x1 n2 t2 x2 n3 t3 x3);clear hv hl ht hn0;go_enter func66,ntmps66;go_upto_region 1 with fail
 show Code.wp _ _ _ _ (aW w n1 t1 x1 n2 t2 x2 n3 t3 x3);obtain ⟨wb,hwb⟩:=aB (aW w n1 t1 x1 n2 t2 x2 n3 t3 x3);rw [←hwb] at HB1 iL ⊢;clear hwb;go_wp2;go_loopg [5] n (fun gk s5 wr=>∃ (i:Nat),s5=.int .i64 i∧i≤n∧n-i≤gk∧Hid (Below wb.heap.size wb wr)∧Hid (∀ j (h:j<L.length),j<i→Tm.bQ L[j] ((n1,t1,x1),(n2,t2,x2),n3,t3,x3)<0))
 case atStart=>exact ⟨0,aN,Nat.zero_le _,Nat.le_refl _,Below.refl _ _,aj (fun j h h2=>absurd h2 (Nat.not_lt_zero _))⟩
 case round=>
  obtain ⟨i,rfl,hin,hg,HB,jB⟩:=hrel;have JE:=aj (iL.out.keep HB.out);by_cases hlt:i<n
  · have hltz:(i:Int)<(n:Int):=ak;have JF:decide ((i:Int)<(n:Int))=true:=decide_eq_true hltz;have bK:i<L.length:=(by rw [←HN.out];exact hlt);have JG:=aj (HL.out L[i] (List.getElem_mem bK));have iJ:=aj ((HV.out.keep HB1.out).keep HB.out);obtain ⟨bl,off,hab,hrow⟩:=iJ.out.get (i:=i) (by rw [List.length_map];exact bK);have HRW:=aj (hrow i (by rw [List.length_map];exact bK));rw [List.getElem_map] at HRW;have qU:=aj (fun W=>CP.out L[i] JG.out W);obtain ⟨r,hr⟩:=aB (Tm.bQ L[i] ((n1,t1,x1),(n2,t2,x2),n3,t3,x3));rw [←hr] at qU;have HR:=aj hr;obtain ⟨p,hp⟩:=aB (L[i]);rw [←hp] at HRW qU;clear hp hr hrow;obtain ⟨⟨m1,u1,y1⟩,⟨m2,u2,y2⟩,m3,u3,y3⟩:=p;have lu:=aj hab;subst hab;have qV:Hid (∀ W,Calls prog 108 #[eD (m1:Nat) u1 y1 (m2:Nat) u2 y2 (m3:Nat) u3 y3,eD (n1:Nat) t1 x1 (n2:Nat) t2 x2 (n3:Nat) t3 x3] W fun e w'=>e=.returned (.int .i64 r)∧Below W.heap.size W w'):=qU;clear qU;have c0:=HRW.out 0 ak;have c1:=HRW.out 1 ak;have c2:=HRW.out 2 ak;have c3:=HRW.out 3 ak;have c4:=HRW.out 4 ak;have c5:=HRW.out 5 ak;have c6:=HRW.out 6 ak;have c7:=HRW.out 7 ak;have c8:=HRW.out 8 ak;simp only [aV,dZ.cells,List.getElem?_cons_zero,List.getElem?_cons_succ,Nat.add_zero] at c0 c1 c2 c3 c4 c5 c6 c7 c8;have k0:=fun p:Later wr.heap.size wr=>p.keep c0;have k1:=fun p:Later wr.heap.size wr=>p.keep c1;have k2:=fun p:Later wr.heap.size wr=>p.keep c2;have k3:=fun p:Later wr.heap.size wr=>p.keep c3;have k4:=fun p:Later wr.heap.size wr=>p.keep c4;have k5:=fun p:Later wr.heap.size wr=>p.keep c5;have k6:=fun p:Later wr.heap.size wr=>p.keep c6;have k7:=fun p:Later wr.heap.size wr=>p.keep c7;have k8:=fun p:Later wr.heap.size wr=>p.keep c8;obtain ⟨d0,d1,d2,d3,d4,d5,d6,d7,d8⟩:=dQ JE.out;have j0:=fun p:Later wr.heap.size wr=>p.keep d0;have j1:=fun p:Later wr.heap.size wr=>p.keep d1;have j2:=fun p:Later wr.heap.size wr=>p.keep d2;have j3:=fun p:Later wr.heap.size wr=>p.keep d3;have j4:=fun p:Later wr.heap.size wr=>p.keep d4;have j5:=fun p:Later wr.heap.size wr=>p.keep d5;have j6:=fun p:Later wr.heap.size wr=>p.keep d6;have j7:=fun p:Later wr.heap.size wr=>p.keep d7;have j8:=fun p:Later wr.heap.size wr=>p.keep d8;by_cases hneg:r<0
    · have dn:decide (r<0)=true:=decide_eq_true hneg;(go_upto_region 2 with fail);refine fV wr.heap.size aG aG ?_;(repeat (go_big_quiet_step (first | (go_at_call 108;with_reducible exact Later.call aF (qV.out _)))));refine wpQuiet_nil ?_;rintro wq ⟨q,hq⟩;have gY:=aj (show Below wb.heap.size wb wq by rw [hq];exact aJ HB.out q.low);clear hq q k0 k1 k2 k3 k4 k5 k6 k7 k8 j0 j1 j2 j3 j4 j5 j6 j7 j8;go_wp2;go_roundg (n-(i+1))
      (case measure=>omega);case rel=>exact ⟨i+1,aN,ak,ak,gY.out,by
       show ∀ _,_;intro j h hj;rcases Nat.lt_or_ge j i with h2 | h2;{exact jB.out j h h2}
       · obtain rfl:j=i:=ak;rw [←HR.out];exact hneg⟩
    · have dn:decide (r<0)=false:=decide_eq_false hneg;(go_upto_region 2 with fail);refine fV wr.heap.size aG aG ?_;(repeat (go_big_quiet_step (first | (go_at_call 108;with_reducible exact Later.call aF (qV.out _)))));refine wpQuiet_nil ?_;clear k0 k1 k2 k3 k4 k5 k6 k7 k8 j0 j1 j2 j3 j4 j5 j6 j7 j8;rintro wq ⟨q,hq⟩;have gY:=aj (show Below wb.heap.size wb wq by rw [hq];exact aJ HB.out q.low);have dx:=aj (show Below wr.heap.size wr wq by rw [hq];exact q.low);clear hq q;by_cases hz0:r=0;{subst hz0;have lD:=aj (show Tm.put L ((n1,t1,x1),(n2,t2,x2),n3,t3,x3)=L from ae2 bK jB.out HR.out.symm HL.out HT.out);(go_upto_region 4 with fail);have k0:=fun p:Later wq.heap.size wq=>p.keep (aD dx.out c0);have k1:=fun p:Later wq.heap.size wq=>p.keep (aD dx.out c1);have k2:=fun p:Later wq.heap.size wq=>p.keep (aD dx.out c2);have k3:=fun p:Later wq.heap.size wq=>p.keep (aD dx.out c3);have k4:=fun p:Later wq.heap.size wq=>p.keep (aD dx.out c4);have k5:=fun p:Later wq.heap.size wq=>p.keep (aD dx.out c5);have k6:=fun p:Later wq.heap.size wq=>p.keep (aD dx.out c6);have k7:=fun p:Later wq.heap.size wq=>p.keep (aD dx.out c7);have k8:=fun p:Later wq.heap.size wq=>p.keep (aD dx.out c8);have j0:=fun p:Later wq.heap.size wq=>p.keep (aD dx.out d0);have j1:=fun p:Later wq.heap.size wq=>p.keep (aD dx.out d1);have j2:=fun p:Later wq.heap.size wq=>p.keep (aD dx.out d2);have j3:=fun p:Later wq.heap.size wq=>p.keep (aD dx.out d3);have j4:=fun p:Later wq.heap.size wq=>p.keep (aD dx.out d4);have j5:=fun p:Later wq.heap.size wq=>p.keep (aD dx.out d5);have j6:=fun p:Later wq.heap.size wq=>p.keep (aD dx.out d6);have j7:=fun p:Later wq.heap.size wq=>p.keep (aD dx.out d7);have j8:=fun p:Later wq.heap.size wq=>p.keep (aD dx.out d8);refine fV wq.heap.size aG aG ?_;(repeat (go_big_quiet_step (first | (go_at_call 108;with_reducible exact Later.call aF (qV.out _)))));refine wpQuiet_nil ?_;rintro wq2 ⟨q,hq⟩;clear k0 k1 k2 k3 k4 k5 k6 k7 k8 j0 j1 j2 j3 j4 j5 j6 j7 j8 c0 c1 c2 c3 c4 c5 c6 c7 c8 d0 d1 d2 d3 d4 d5 d6 d7 d8;have xq:=aj (show Below wb.heap.size wb wq2 by rw [hq];exact aJ gY.out q.low);clear hq q;go_wp2;go_ret;exact ⟨_,rfl,by rw [lD.out];exact (HV.out.keep HB1.out).keep xq.out,HB1.out.trans (xq.out.mono HB1.out.size)⟩}
      · have ai8:(r==0)=false:=beq_eq_false_iff_ne.2 hz0;have lD:=aj (show Tm.put L ((n1,t1,x1),(n2,t2,x2),n3,t3,x3)=L.take i++((n1,t1,x1),(n2,t2,x2),n3,t3,x3)::L.drop i from Sy (by rw [←HN.out];exact hin) jB.out (fun h=>by rw [←HR.out];omega));(go_upto_region 4 with fail);have k0:=fun p:Later wq.heap.size wq=>p.keep (aD dx.out c0);have k1:=fun p:Later wq.heap.size wq=>p.keep (aD dx.out c1);have k2:=fun p:Later wq.heap.size wq=>p.keep (aD dx.out c2);have k3:=fun p:Later wq.heap.size wq=>p.keep (aD dx.out c3);have k4:=fun p:Later wq.heap.size wq=>p.keep (aD dx.out c4);have k5:=fun p:Later wq.heap.size wq=>p.keep (aD dx.out c5);have k6:=fun p:Later wq.heap.size wq=>p.keep (aD dx.out c6);have k7:=fun p:Later wq.heap.size wq=>p.keep (aD dx.out c7);have k8:=fun p:Later wq.heap.size wq=>p.keep (aD dx.out c8);have j0:=fun p:Later wq.heap.size wq=>p.keep (aD dx.out d0);have j1:=fun p:Later wq.heap.size wq=>p.keep (aD dx.out d1);have j2:=fun p:Later wq.heap.size wq=>p.keep (aD dx.out d2);have j3:=fun p:Later wq.heap.size wq=>p.keep (aD dx.out d3);have j4:=fun p:Later wq.heap.size wq=>p.keep (aD dx.out d4);have j5:=fun p:Later wq.heap.size wq=>p.keep (aD dx.out d5);have j6:=fun p:Later wq.heap.size wq=>p.keep (aD dx.out d6);have j7:=fun p:Later wq.heap.size wq=>p.keep (aD dx.out d7);have j8:=fun p:Later wq.heap.size wq=>p.keep (aD dx.out d8);refine fV wq.heap.size aG aG ?_;(repeat (go_big_quiet_step (first | (go_at_call 108;with_reducible exact Later.call aF (qV.out _)))));refine wpQuiet_nil ?_;rintro wq2 ⟨q,hq⟩;clear k0 k1 k2 k3 k4 k5 k6 k7 k8 j0 j1 j2 j3 j4 j5 j6 j7 j8 c0 c1 c2 c3 c4 c5 c6 c7 c8 d0 d1 d2 d3 d4 d5 d6 d7 d8;have aU:=aj (show Below wb.heap.size wb wq2 by rw [hq];exact aJ gY.out q.low);have cZ:=aj (show aC wq2 w.heap.size [.int .i64 (n1:Nat),aA t1,aA x1,.int .i64 (n2:Nat),aA t2,aA x2,.int .i64 (n3:Nat),aA t3,aA x3] 67 from iL.out.keep aU.out);have hzb:=iL.out.lt;clear hq q;obtain ⟨w6,dK⟩:=aB wq2;rw [←dK] at aU cZ ⊢;clear dK;have hic:i<cap:=ak;have hA1:i≤cap:=ak;have ae9:¬ cap=i:=ak;have hA2:(i:Int)≤(cap:Int):=ak;have hA3:(n:Int)≤(cap:Int):=ak;have uW:(i:Int)≤(n:Int):=ak;have nT:=aj ((HV.out.front i ak).keep HB1.out);have oC:=aj (show bJ wb (.slice (some ⟨bl,off,none⟩) i cap) ((L.take i).map aV) by rw [List.map_take];exact nT.out);have hlt1:(L.take i).length=i:=(by rw [List.length_take,←HN.out];omega);have kI:=aj (nG oC.out).2.1;have kJ:=aj (show (bR (L.take i)).length=i*9 by rw [xk,hlt1]);have F1:=aj (fun W (hW:Below wb.heap.size wb W)=>(nG (oC.out.keep hW)).2.2);have iM:=aj (show bJ wb (.slice (some ⟨bl,off+i*9,none⟩) (n-i) (cap-i)) ((L.drop i).map aV) by rw [List.map_drop];exact (HV.out.back i ak).keep HB1.out);have uX:=aj (nG iM.out).2.1;have uY:=aj (show (bR (L.drop i)).length=(n-i)*9 by rw [xk,←(nG iM.out).1]);have F2:=aj (fun W (hW:Below wb.heap.size wb W)=>(nG (iM.out.keep hW)).2.2);have uZ:=aj (show 0+i+1+(n-i)=(L.take i++((n1,t1,x1),(n2,t2,x2),n3,t3,x3)::L.drop i).length by have h:=(nG iM.out).1;rw [List.length_append,List.length_cons,hlt1,←h] <;> omega);clear hlt1;obtain ⟨iS,hi0,bW,bX,bY⟩:=sI;have iE:=aU.out.size;have JH:=cZ.out.lt;have OA:=aj (KS w6.drew wb.heap.size iE);have HA:=aj (aU.out.drew.alloc iE (.cells #[] 67));have UA:=aj (show aC (w6.drew.alloc (.cells #[] 67)) w.heap.size [.int .i64 (n1:Nat),aA t1,aA x1,.int .i64 (n2:Nat),aA t2,aA x2,.int .i64 (n3:Nat),aA t3,aA x3] 67 from cZ.out.alloc _);have OC:=aj (OA.out.alloc (.cells (aV ((n1,t1,x1),(n2,t2,x2),n3,t3,x3)).cells.toArray 67));have HC:=aj (HA.out.alloc HA.out.size (.cells (aV ((n1,t1,x1),(n2,t2,x2),n3,t3,x3)).cells.toArray 67));have UC:=aj (UA.out.alloc (.cells (aV ((n1,t1,x1),(n2,t2,x2),n3,t3,x3)).cells.toArray 67));have TC:=aj (show aC ((w6.drew.alloc (.cells #[] 67)).alloc (.cells (aV ((n1,t1,x1),(n2,t2,x2),n3,t3,x3)).cells.toArray 67)) (w6.heap.size+1) (aV ((n1,t1,x1),(n2,t2,x2),n3,t3,x3)).cells 67 from Vh w6 _ _ _);have oD:=aj (aU.out.drew.alloc iE (.cells (aV ((n1,t1,x1),(n2,t2,x2),n3,t3,x3)).cells.toArray 67));have OE:=aj (show ((w6.drew.alloc (.cells (aV ((n1,t1,x1),(n2,t2,x2),n3,t3,x3)).cells.toArray 67)).alloc (.cells #[] 67)).ownsRow wb.heap.size 67 9 (.slice (some ⟨w6.heap.size+1,0,none⟩) 0 0) 0 [] from Vf w6 wb.heap.size _ iE);have HE:=aj (oD.out.alloc oD.out.size (.cells #[] 67));have UE:=aj (show aC ((w6.drew.alloc (.cells (aV ((n1,t1,x1),(n2,t2,x2),n3,t3,x3)).cells.toArray 67)).alloc (.cells #[] 67)) w.heap.size [.int .i64 (n1:Nat),aA t1,aA x1,.int .i64 (n2:Nat),aA t2,aA x2,.int .i64 (n3:Nat),aA t3,aA x3] 67 from (cZ.out.alloc _).alloc _);have TE:=aj (show aC ((w6.drew.alloc (.cells (aV ((n1,t1,x1),(n2,t2,x2),n3,t3,x3)).cells.toArray 67)).alloc (.cells #[] 67)) w6.heap.size (aV ((n1,t1,x1),(n2,t2,x2),n3,t3,x3)).cells 67 from (Vg w6 _).alloc _);obtain ⟨d0,d1,d2,d3,d4,d5,d6,d7,d8⟩:=dQ cZ.out;(go_upto_region 6 with fail);go_region_law (first
         | (refine eT (by rfl) (.tmp 35) (.tmp 38) 39 (by rfl) wb.heap.size 67 iS _ 9 120 underlying39 hi0 bW bX bY rfl aL (.slice (some ⟨w6.heap.size,0,none⟩) 0 0) 0 [] (by rfl) OA.out (some ⟨bl,off,none⟩) i cap (bR (L.take i)) (by rfl) kI.out kJ.out (F1.out _ HA.out) (sU _) ?b1 ?b2 ?b3 ?_
            case b1=>(unfold maxLen;omega)
            case b2=>omega
            case b3=>exact HA.out.size
            intro v1 w1 g1 g2 g3
            have G1:=aj g1
            have bT:=aj (HA.out.grown g2 HA.out.size (fun k hk=>(OA.out.lt k hk).1))
            have gN:=aj (pQ UA.out g2 (fun e=>by have:=(OA.out.lt _ e).1;omega))
            obtain ⟨k0,k1,k2,k3,k4,k5,k6,k7,k8⟩:=dQ gN.out
            clear g1 g2 g3)
         | (refine eT (by rfl) (.tmp 35) (.tmp 38) 39 (by rfl) wb.heap.size 67 iS _ 9 120 underlying39 hi0 bW bX bY rfl aL (.slice (some ⟨w6.heap.size,0,none⟩) 0 0) 0 [] (by rfl) OC.out (some ⟨bl,off,none⟩) i cap (bR (L.take i)) (by rfl) kI.out kJ.out (F1.out _ HC.out) (sU _) ?b1 ?b2 ?b3 ?_
            case b1=>(unfold maxLen;omega)
            case b2=>omega
            case b3=>exact HC.out.size
            intro v1 w1 g1 g2 g3
            have G1:=aj g1
            have bT:=aj (HC.out.grown g2 HC.out.size (fun k hk=>(OC.out.lt k hk).1))
            have gN:=aj (pQ UC.out g2 (fun e=>by have:=(OC.out.lt _ e).1;omega))
            have Uq7:=aj (pQ TC.out g2 (fun e=>by simp [Value.ownBlock] at e))
            obtain ⟨k0,k1,k2,k3,k4,k5,k6,k7,k8⟩:=dQ gN.out
            clear g1 g2 g3)
         | (refine eT (by rfl) (.tmp 35) (.tmp 38) 39 (by rfl) wb.heap.size 67 iS _ 9 120 underlying39 hi0 bW bX bY rfl aL (.slice (some ⟨w6.heap.size+1,0,none⟩) 0 0) 0 [] (by rfl) OE.out (some ⟨bl,off,none⟩) i cap (bR (L.take i)) (by rfl) kI.out kJ.out (F1.out _ HE.out) (sU _) ?b1 ?b2 ?b3 ?_
            case b1=>(unfold maxLen;omega)
            case b2=>omega
            case b3=>exact HE.out.size
            intro v1 w1 g1 g2 g3
            have G1:=aj g1
            have bT:=aj (HE.out.grown g2 HE.out.size (fun k hk=>(OE.out.lt k hk).1))
            have gN:=aj (pQ UE.out g2 (fun e=>by have:=(OE.out.lt _ e).1;omega))
            have iN:=aj (pQ TE.out g2 (fun e=>by simp [Value.ownBlock] at e))
            obtain ⟨k0,k1,k2,k3,k4,k5,k6,k7,k8⟩:=dQ gN.out
            clear g1 g2 g3)
         | (refine eT (by rfl) (.tmp 39) (.tmp 41) 39 (by rfl) wb.heap.size 67 iS _ 9 120 underlying39 hi0 bW bX bY rfl aL v1 (0+i) ([]++(bR (L.take i))) (by rfl) (G1.out.alloc _) (some ⟨w1.heap.size,0,none⟩) 1 1 (aV ((n1,t1,x1),(n2,t2,x2),n3,t3,x3)).cells (by rfl) (fun h=>by cases h) rfl (EB w1 ((n1,t1,x1),(n2,t2,x2),n3,t3,x3)) (pI ((n1,t1,x1),(n2,t2,x2),n3,t3,x3)) ?b1 ?b2 ?b3 ?_
            case b1=>(unfold maxLen;omega)
            case b2=>omega
            case b3=>exact (bT.out.alloc bT.out.size _).size
            intro v2 w2 g1 g2 g3
            have G2:=aj g1
            have fO:=aj ((bT.out.alloc bT.out.size _).grown g2 (bT.out.alloc bT.out.size _).size (fun k hk=>(G1.out.lt k hk).1))
            clear g1 g2 g3)
         | (refine eT (by rfl) (.tmp 39) (.tmp 41) 39 (by rfl) wb.heap.size 67 iS _ 9 120 underlying39 hi0 bW bX bY rfl aL v1 (0+i) ([]++(bR (L.take i))) (by rfl) G1.out (some ⟨w6.heap.size+1,0,none⟩) 1 1 (aV ((n1,t1,x1),(n2,t2,x2),n3,t3,x3)).cells (by rfl) (fun h=>by cases h) rfl (Fb Uq7.out) (pI ((n1,t1,x1),(n2,t2,x2),n3,t3,x3)) ?b1 ?b2 ?b3 ?_
            case b1=>(unfold maxLen;omega)
            case b2=>omega
            case b3=>exact bT.out.size
            intro v2 w2 g1 g2 g3
            have G2:=aj g1
            have fO:=aj (bT.out.grown g2 bT.out.size (fun k hk=>(G1.out.lt k hk).1))
            clear g1 g2 g3)
         | (refine eT (by rfl) (.tmp 39) (.tmp 41) 39 (by rfl) wb.heap.size 67 iS _ 9 120 underlying39 hi0 bW bX bY rfl aL v1 (0+i) ([]++(bR (L.take i))) (by rfl) G1.out (some ⟨w6.heap.size,0,none⟩) 1 1 (aV ((n1,t1,x1),(n2,t2,x2),n3,t3,x3)).cells (by rfl) (fun h=>by cases h) rfl (Fb iN.out) (pI ((n1,t1,x1),(n2,t2,x2),n3,t3,x3)) ?b1 ?b2 ?b3 ?_
            case b1=>(unfold maxLen;omega)
            case b2=>omega
            case b3=>exact bT.out.size
            intro v2 w2 g1 g2 g3
            have G2:=aj g1
            have fO:=aj (bT.out.grown g2 bT.out.size (fun k hk=>(G1.out.lt k hk).1))
            clear g1 g2 g3)
         | (refine eT (by rfl) (.tmp 42) (.tmp 45) 39 (by rfl) wb.heap.size 67 iS _ 9 120 underlying39 hi0 bW bX bY rfl aL v2 (0+i+1) (([]++(bR (L.take i)))++(aV ((n1,t1,x1),(n2,t2,x2),n3,t3,x3)).cells) (by rfl) G2.out (some ⟨bl,off+i*9,none⟩) (n-i) (cap-i) (bR (L.drop i)) (by rfl) uX.out uY.out (F2.out _ fO.out) (sU _) ?b1 ?b2 ?b3 ?_
            case b1=>(unfold maxLen;omega)
            case b2=>omega
            case b3=>exact fO.out.size
            intro v3 w3 g1 g2 g3
            have G3:=aj g1
            have u_:=aj (fO.out.grown g2 fO.out.size (fun k hk=>(G2.out.lt k hk).1))
            clear g1 g2 g3)
         | fail)
        all_goals
         have mo:=aj (Vi (L:=L) (t:=((n1,t1,x1),(n2,t2,x2),n3,t3,x3)) (i:=i) G3.out uZ.out)
         go_wp2
         go_ret
         exact ⟨v3,rfl,by rw [lD.out];exact mo.out,HB1.out.trans (u_.out.mono HB1.out.size)⟩
  · obtain rfl:i=n:=ak;have hltz:¬ (i:Int)<(i:Int):=ak;have JF:decide ((i:Int)<(i:Int))=false:=decide_eq_false hltz;have lD:=aj (show Tm.put L ((n1,t1,x1),(n2,t2,x2),n3,t3,x3)=L.take i++((n1,t1,x1),(n2,t2,x2),n3,t3,x3)::L.drop i from Sy (by rw [←HN.out];exact hin) jB.out (fun h=>by have:=HN.out;omega));(go_upto_region 2 with fail);refine fV wr.heap.size aG aG ?_;(repeat (go_big_quiet_step (first | fail)));refine wpQuiet_nil ?_;rintro wq ⟨q,hq⟩;have gY:=aj (show Below wb.heap.size wb wq by rw [hq];exact aJ HB.out q.low);clear hq q;(go_upto_region 4 with fail);refine fV wq.heap.size aG aG ?_;(repeat (go_big_quiet_step (first | fail)));refine wpQuiet_nil ?_;rintro wq2 ⟨q,hq⟩;have aU:=aj (show Below wb.heap.size wb wq2 by rw [hq];exact aJ gY.out q.low);have cZ:=aj (show aC wq2 w.heap.size [.int .i64 (n1:Nat),aA t1,aA x1,.int .i64 (n2:Nat),aA t2,aA x2,.int .i64 (n3:Nat),aA t3,aA x3] 67 from iL.out.keep aU.out);have hzb:=iL.out.lt;clear hq q;obtain ⟨w6,dK⟩:=aB wq2;rw [←dK] at aU cZ ⊢;clear dK;have hde:(L.drop i).map aV=[]:=(by rw [List.drop_eq_nil_of_le (by rw [←HN.out];exact Nat.le_refl _)];rfl);obtain ⟨fa,fc,ba,bc,hS1,hS2,JI,hB0⟩:∃ (fa:Option Addr) (fc:Nat) (ba:Option Addr) (bc:Nat),(∀ W,(Instr.sliceAt 39 (.slice a i cap) none (some (.int .i64 (i:Int))) none).run prog W=.ok (.slice fa i fc) W)∧(∀ W,(Instr.sliceAt 39 (.slice a i cap) (some (.int .i64 (i:Int))) none none).run prog W=.ok (.slice ba 0 bc) W)∧bJ wb (.slice fa i fc) ((L.take i).map aV)∧bJ wb (.slice ba 0 bc) ((L.drop i).map aV):=(by have hA1:(i:Int)≤(cap:Int):=ak;have qW:∀ x c,c≤maxLen→(x=none→c=0)→bJ wb (.slice x 0 c) ((L.drop i).map aV):=fun x c h1 h2=>(by rw [hde];exact ⟨_,_,rfl,Nat.zero_le _,h1,h2,.inl rfl⟩);have iO:bJ wb (.slice a i cap) ((L.take i).map aV):=(by rw [List.map_take];exact (HV.out.front i ak).keep HB1.out);have hz0:(0:Nat)≤maxLen:=(by unfold maxLen;omega);rcases Nat.eq_zero_or_pos i with qX | qX;{subst qX;rcases a with _ | ad;{obtain rfl:cap=0:=hc3 rfl;exact ⟨none,0,none,0,fun W=>by simp [go_sem],fun W=>by simp [go_sem],iO,qW _ _ hz0 (fun _=>rfl)⟩};{exact ⟨some ad,cap,some ad,cap,fun W=>by simp [go_sem],fun W=>by simp [go_sem],iO,qW _ _ ak (fun h=>by cases h)⟩}};{obtain ⟨bl,off,rfl,hrow⟩:=HV.out.get (i:=0) (by first | (rw [List.length_map,←HN.out];exact qX) | (rw [←HN.out];exact qX));clear hrow;by_cases hck:cap=i;{subst hck;exact ⟨some ⟨bl,off,none⟩,cap,some ⟨bl,off,none⟩,0,fun W=>by simp [go_sem],fun W=>by simp [go_sem],iO,qW _ _ hz0 (fun h=>by cases h)⟩};{have JJ:¬ cap-i=0:=ak;exact ⟨some ⟨bl,off,none⟩,cap,some ⟨bl,off+i*9,none⟩,cap-i,fun W=>by simp [go_sem,hA1],fun W=>by simp [go_sem,hA1,hck,JJ],iO,qW _ _ ak (fun h=>by cases h)⟩}});obtain ⟨v0,hv0⟩:=aB (Value.slice a i cap);rw [←hv0] at hS1 hS2 ⊢;clear hv0;have hA2:(i:Int)≤(cap:Int):=ak;have oC:=aj JI;have hlt1:(L.take i).length=i:=(by rw [List.length_take,←HN.out];omega);have kI:=aj (nG oC.out).2.1;have kJ:=aj (show (bR (L.take i)).length=i*9 by rw [xk,hlt1]);have F1:=aj (fun W (hW:Below wb.heap.size wb W)=>(nG (oC.out.keep hW)).2.2);have iM:=aj hB0;have uX:=aj (nG iM.out).2.1;have uY:=aj (show (bR (L.drop i)).length=0*9 by rw [xk,←(nG iM.out).1]);have F2:=aj (fun W (hW:Below wb.heap.size wb W)=>(nG (iM.out.keep hW)).2.2);have uZ:=aj (show 0+i+1+0=(L.take i++((n1,t1,x1),(n2,t2,x2),n3,t3,x3)::L.drop i).length by have h:=(nG iM.out).1;rw [List.length_append,List.length_cons,hlt1,←h] <;> omega);clear hlt1;obtain ⟨iS,hi0,bW,bX,bY⟩:=sI;have iE:=aU.out.size;have JH:=cZ.out.lt;have OA:=aj (KS w6.drew wb.heap.size iE);have HA:=aj (aU.out.drew.alloc iE (.cells #[] 67));have UA:=aj (show aC (w6.drew.alloc (.cells #[] 67)) w.heap.size [.int .i64 (n1:Nat),aA t1,aA x1,.int .i64 (n2:Nat),aA t2,aA x2,.int .i64 (n3:Nat),aA t3,aA x3] 67 from cZ.out.alloc _);have OC:=aj (OA.out.alloc (.cells (aV ((n1,t1,x1),(n2,t2,x2),n3,t3,x3)).cells.toArray 67));have HC:=aj (HA.out.alloc HA.out.size (.cells (aV ((n1,t1,x1),(n2,t2,x2),n3,t3,x3)).cells.toArray 67));have UC:=aj (UA.out.alloc (.cells (aV ((n1,t1,x1),(n2,t2,x2),n3,t3,x3)).cells.toArray 67));have TC:=aj (show aC ((w6.drew.alloc (.cells #[] 67)).alloc (.cells (aV ((n1,t1,x1),(n2,t2,x2),n3,t3,x3)).cells.toArray 67)) (w6.heap.size+1) (aV ((n1,t1,x1),(n2,t2,x2),n3,t3,x3)).cells 67 from Vh w6 _ _ _);have oD:=aj (aU.out.drew.alloc iE (.cells (aV ((n1,t1,x1),(n2,t2,x2),n3,t3,x3)).cells.toArray 67));have OE:=aj (show ((w6.drew.alloc (.cells (aV ((n1,t1,x1),(n2,t2,x2),n3,t3,x3)).cells.toArray 67)).alloc (.cells #[] 67)).ownsRow wb.heap.size 67 9 (.slice (some ⟨w6.heap.size+1,0,none⟩) 0 0) 0 [] from Vf w6 wb.heap.size _ iE);have HE:=aj (oD.out.alloc oD.out.size (.cells #[] 67));have UE:=aj (show aC ((w6.drew.alloc (.cells (aV ((n1,t1,x1),(n2,t2,x2),n3,t3,x3)).cells.toArray 67)).alloc (.cells #[] 67)) w.heap.size [.int .i64 (n1:Nat),aA t1,aA x1,.int .i64 (n2:Nat),aA t2,aA x2,.int .i64 (n3:Nat),aA t3,aA x3] 67 from (cZ.out.alloc _).alloc _);have TE:=aj (show aC ((w6.drew.alloc (.cells (aV ((n1,t1,x1),(n2,t2,x2),n3,t3,x3)).cells.toArray 67)).alloc (.cells #[] 67)) w6.heap.size (aV ((n1,t1,x1),(n2,t2,x2),n3,t3,x3)).cells 67 from (Vg w6 _).alloc _);obtain ⟨d0,d1,d2,d3,d4,d5,d6,d7,d8⟩:=dQ cZ.out;(go_upto_region 6 with fail);go_region_law (first
     | (refine eT (by rfl) (.tmp 35) (.tmp 38) 39 (by rfl) wb.heap.size 67 iS _ 9 120 underlying39 hi0 bW bX bY rfl aL (.slice (some ⟨w6.heap.size,0,none⟩) 0 0) 0 [] (by rfl) OA.out fa i fc (bR (L.take i)) (by rfl) kI.out kJ.out (F1.out _ HA.out) (sU _) ?b1 ?b2 ?b3 ?_
        case b1=>(unfold maxLen;omega)
        case b2=>omega
        case b3=>exact HA.out.size
        intro v1 w1 g1 g2 g3
        have G1:=aj g1
        have bT:=aj (HA.out.grown g2 HA.out.size (fun k hk=>(OA.out.lt k hk).1))
        have gN:=aj (pQ UA.out g2 (fun e=>by have:=(OA.out.lt _ e).1;omega))
        obtain ⟨k0,k1,k2,k3,k4,k5,k6,k7,k8⟩:=dQ gN.out
        clear g1 g2 g3)
     | (refine eT (by rfl) (.tmp 35) (.tmp 38) 39 (by rfl) wb.heap.size 67 iS _ 9 120 underlying39 hi0 bW bX bY rfl aL (.slice (some ⟨w6.heap.size,0,none⟩) 0 0) 0 [] (by rfl) OC.out fa i fc (bR (L.take i)) (by rfl) kI.out kJ.out (F1.out _ HC.out) (sU _) ?b1 ?b2 ?b3 ?_
        case b1=>(unfold maxLen;omega)
        case b2=>omega
        case b3=>exact HC.out.size
        intro v1 w1 g1 g2 g3
        have G1:=aj g1
        have bT:=aj (HC.out.grown g2 HC.out.size (fun k hk=>(OC.out.lt k hk).1))
        have gN:=aj (pQ UC.out g2 (fun e=>by have:=(OC.out.lt _ e).1;omega))
        have Uq7:=aj (pQ TC.out g2 (fun e=>by simp [Value.ownBlock] at e))
        obtain ⟨k0,k1,k2,k3,k4,k5,k6,k7,k8⟩:=dQ gN.out
        clear g1 g2 g3)
     | (refine eT (by rfl) (.tmp 35) (.tmp 38) 39 (by rfl) wb.heap.size 67 iS _ 9 120 underlying39 hi0 bW bX bY rfl aL (.slice (some ⟨w6.heap.size+1,0,none⟩) 0 0) 0 [] (by rfl) OE.out fa i fc (bR (L.take i)) (by rfl) kI.out kJ.out (F1.out _ HE.out) (sU _) ?b1 ?b2 ?b3 ?_
        case b1=>(unfold maxLen;omega)
        case b2=>omega
        case b3=>exact HE.out.size
        intro v1 w1 g1 g2 g3
        have G1:=aj g1
        have bT:=aj (HE.out.grown g2 HE.out.size (fun k hk=>(OE.out.lt k hk).1))
        have gN:=aj (pQ UE.out g2 (fun e=>by have:=(OE.out.lt _ e).1;omega))
        have iN:=aj (pQ TE.out g2 (fun e=>by simp [Value.ownBlock] at e))
        obtain ⟨k0,k1,k2,k3,k4,k5,k6,k7,k8⟩:=dQ gN.out
        clear g1 g2 g3)
     | (refine eT (by rfl) (.tmp 39) (.tmp 41) 39 (by rfl) wb.heap.size 67 iS _ 9 120 underlying39 hi0 bW bX bY rfl aL v1 (0+i) ([]++(bR (L.take i))) (by rfl) (G1.out.alloc _) (some ⟨w1.heap.size,0,none⟩) 1 1 (aV ((n1,t1,x1),(n2,t2,x2),n3,t3,x3)).cells (by rfl) (fun h=>by cases h) rfl (EB w1 ((n1,t1,x1),(n2,t2,x2),n3,t3,x3)) (pI ((n1,t1,x1),(n2,t2,x2),n3,t3,x3)) ?b1 ?b2 ?b3 ?_
        case b1=>(unfold maxLen;omega)
        case b2=>omega
        case b3=>exact (bT.out.alloc bT.out.size _).size
        intro v2 w2 g1 g2 g3
        have G2:=aj g1
        have fO:=aj ((bT.out.alloc bT.out.size _).grown g2 (bT.out.alloc bT.out.size _).size (fun k hk=>(G1.out.lt k hk).1))
        clear g1 g2 g3)
     | (refine eT (by rfl) (.tmp 39) (.tmp 41) 39 (by rfl) wb.heap.size 67 iS _ 9 120 underlying39 hi0 bW bX bY rfl aL v1 (0+i) ([]++(bR (L.take i))) (by rfl) G1.out (some ⟨w6.heap.size+1,0,none⟩) 1 1 (aV ((n1,t1,x1),(n2,t2,x2),n3,t3,x3)).cells (by rfl) (fun h=>by cases h) rfl (Fb Uq7.out) (pI ((n1,t1,x1),(n2,t2,x2),n3,t3,x3)) ?b1 ?b2 ?b3 ?_
        case b1=>(unfold maxLen;omega)
        case b2=>omega
        case b3=>exact bT.out.size
        intro v2 w2 g1 g2 g3
        have G2:=aj g1
        have fO:=aj (bT.out.grown g2 bT.out.size (fun k hk=>(G1.out.lt k hk).1))
        clear g1 g2 g3)
     | (refine eT (by rfl) (.tmp 39) (.tmp 41) 39 (by rfl) wb.heap.size 67 iS _ 9 120 underlying39 hi0 bW bX bY rfl aL v1 (0+i) ([]++(bR (L.take i))) (by rfl) G1.out (some ⟨w6.heap.size,0,none⟩) 1 1 (aV ((n1,t1,x1),(n2,t2,x2),n3,t3,x3)).cells (by rfl) (fun h=>by cases h) rfl (Fb iN.out) (pI ((n1,t1,x1),(n2,t2,x2),n3,t3,x3)) ?b1 ?b2 ?b3 ?_
        case b1=>(unfold maxLen;omega)
        case b2=>omega
        case b3=>exact bT.out.size
        intro v2 w2 g1 g2 g3
        have G2:=aj g1
        have fO:=aj (bT.out.grown g2 bT.out.size (fun k hk=>(G1.out.lt k hk).1))
        clear g1 g2 g3)
     | (refine eT (by rfl) (.tmp 42) (.tmp 45) 39 (by rfl) wb.heap.size 67 iS _ 9 120 underlying39 hi0 bW bX bY rfl aL v2 (0+i+1) (([]++(bR (L.take i)))++(aV ((n1,t1,x1),(n2,t2,x2),n3,t3,x3)).cells) (by rfl) G2.out ba 0 bc (bR (L.drop i)) (by rfl) uX.out uY.out (F2.out _ fO.out) (sU _) ?b1 ?b2 ?b3 ?_
        case b1=>(unfold maxLen;omega)
        case b2=>omega
        case b3=>exact fO.out.size
        intro v3 w3 g1 g2 g3
        have G3:=aj g1
        have u_:=aj (fO.out.grown g2 fO.out.size (fun k hk=>(G2.out.lt k hk).1))
        clear g1 g2 g3)
     | fail)
    all_goals
     have mo:=aj (Vi (L:=L) (t:=((n1,t1,x1),(n2,t2,x2),n3,t3,x3)) (i:=i) G3.out uZ.out)
     go_wp2
     go_ret
     exact ⟨v3,rfl,by rw [lD.out];exact mo.out,HB1.out.trans (u_.out.mono HB1.out.size)⟩
theorem agI {L:List TR} {i:Nat} (hi:i<L.length):Tm.gu (L.take (i+1))=Tm.put (Tm.gu (L.take i)) L[i]:=by rw [List.take_add_one,List.getElem?_eq_getElem hi];unfold Tm.gu;rw [List.foldl_append];rfl
theorem agJ (L:List TR) (hl:∀ t∈L,Tm.aZ t=true) (hn:L.length≤100000) (w:World) (v:Value) (hv:bJ w v (L.map aV)) :
  Calls prog 23 #[v] w fun e w'=>∃ v',e=.returned v'∧bJ w' v' ((Tm.gu L).map aV)∧Below w.heap.size w w':=by
 obtain ⟨a,cap,rfl,hc1,hc2,hc3⟩:=hv.open;have HV:=aj hv;have HL:=aj hl;rw [List.length_map] at HV ⊢;obtain ⟨n,hn0⟩:=aB L.length;rw [←hn0] at HV hn ⊢;have HN:=aj hn0;clear hv hl hc1 hc2 hc3 hn0;go_enter func23,ntmps23;go_wp2;go_loopg [3,4] n (fun gk s3 s4 wr=>∃ (i:Nat),s4=.int .i64 i∧i≤n∧n-i≤gk∧Hid (Below w.heap.size w wr)∧Hid (bJ wr s3 ((Tm.gu (L.take i)).map aV)))
 case atStart=>exact ⟨0,rfl,Nat.zero_le _,Nat.le_refl _,Below.refl _ _,bJ.nil w⟩
 case round=>
  obtain ⟨i,rfl,hin,hg,HB,HO⟩:=hrel;by_cases hlt:i<n
  · have hltz:(i:Int)<(n:Int):=ak;have bK:i<L.length:=(by rw [←HN.out];exact hlt);have HT1:=aj (HL.out L[i] (List.getElem_mem bK));have iJ:=aj (HV.out.keep HB.out);obtain ⟨bl,off,rfl,hrow⟩:=iJ.out.get (i:=i) (by rw [List.length_map];exact bK);have HRW:=aj (hrow i (by rw [List.length_map];exact bK));rw [List.getElem_map] at HRW;have jV:=aj (agI bK);obtain ⟨t,ht⟩:=aB (L[i]);rw [←ht] at HT1 HRW jV;have PT:=aj (agH (Tm.gu (L.take i)) (Tm.yS (fun s hs=>HL.out s (List.mem_of_mem_take hs))) (by have h1:=Tm.yX (L.take i);rw [List.length_take] at h1;omega) t HT1.out wr u3 HO.out);clear ht hrow;obtain ⟨⟨n1,t1,x1⟩,⟨n2,t2,x2⟩,n3,t3,x3⟩:=t;have c0:=HRW.out 0 ak;have c1:=HRW.out 1 ak;have c2:=HRW.out 2 ak;have c3:=HRW.out 3 ak;have c4:=HRW.out 4 ak;have c5:=HRW.out 5 ak;have c6:=HRW.out 6 ak;have c7:=HRW.out 7 ak;have c8:=HRW.out 8 ak;simp only [aV,dZ.cells,List.getElem?_cons_zero,List.getElem?_cons_succ,Nat.add_zero] at c0 c1 c2 c3 c4 c5 c6 c7 c8;(go_wp2_with fail);refine PT.out.mono ?_;rintro e w2 ⟨v2,rfl,hv2,hlow⟩;have HB2:=aj (aJ HB.out hlow);have dU:=aj hv2;clear hv2 hlow;go_wp2;go_roundg (n-(i+1))
    (case measure=>omega);case rel=>exact ⟨i+1,aN,ak,ak,HB2.out,by show bJ _ _ _;rw [jV.out];exact dU.out⟩
  {obtain rfl:i=n:=ak;have hltz:¬ (i:Int)<(i:Int):=ak;have HE:=aj (show L.take i=L by rw [HN.out];exact List.take_length);rw [HE.out] at HO;go_wp2;go_ret;exact ⟨_,rfl,HO.out,HB.out⟩}
theorem agK (k1:Int) (t1 x1:List UInt8) (k2:Int) (t2 x2:List UInt8) (k3:Int) (t3 x3:List UInt8) (w:World) :
  (binOp .neq 67 (eD k1 t1 x1 k2 t2 x2 k3 t3 x3) (eD k1 t1 x1 k2 t2 x2 k3 t3 x3)).run prog w=.ok (.bool false) w:=by simp [go_sem]
theorem agL (L:List dZ) (w:World) (v1 v2:Value) (h1:bJ w v1 L) (h2:bJ w v2 L) (hn:L.length≤100000) :
  Calls prog 41 #[v1,v2] w fun e w'=>e=.returned (.bool true)∧∃ q,w'=w.drewN q:=by
 obtain ⟨a,cap,rfl,_⟩:=h1.open;obtain ⟨b,cap2,rfl,_⟩:=h2.open;have HV:=aj h1;have HW:=aj h2;obtain ⟨n,hn0⟩:=aB L.length;rw [←hn0] at HV HW hn ⊢;have HN:=aj hn0;clear h1 h2 hn0;go_enter func41,ntmps41;go_wp2;go_loopg [5] n (fun gk s5 wr=>∃ (i:Nat),s5=.int .i64 i∧i≤n∧n-i≤gk∧∃ m,wr=w.drewN m)
 case atStart=>exact ⟨0,rfl,Nat.zero_le _,Nat.le_refl _,0,rfl⟩
 case round=>
  obtain ⟨i,rfl,hin,hg,m,rfl⟩:=hrel;by_cases hlt:i<n
  · have hltz:(i:Int)<(n:Int):=ak;have bK:i<L.length:=(by rw [←HN.out];exact hlt);obtain ⟨bl,off,rfl,hrow⟩:=HV.out.get (i:=i) bK;obtain ⟨bm,ofm,rfl,hrow2⟩:=HW.out.get (i:=i) bK;have HRW:=aj (hrow i bK);have pR:=aj (hrow2 i bK);clear hrow hrow2;obtain ⟨t,ht⟩:=aB (L[i]);rw [←ht] at HRW pR;clear ht;obtain ⟨k1,t1,x1,k2,t2,x2,k3,t3,x3⟩:=t;have EQ:=fun W=>agK k1 t1 x1 k2 t2 x2 k3 t3 x3 W;have c0:=HRW.out 0 ak;have c1:=HRW.out 1 ak;have c2:=HRW.out 2 ak;have c3:=HRW.out 3 ak;have c4:=HRW.out 4 ak;have c5:=HRW.out 5 ak;have c6:=HRW.out 6 ak;have c7:=HRW.out 7 ak;have c8:=HRW.out 8 ak;have d0:=pR.out 0 ak;have d1:=pR.out 1 ak;have d2:=pR.out 2 ak;have d3:=pR.out 3 ak;have d4:=pR.out 4 ak;have d5:=pR.out 5 ak;have d6:=pR.out 6 ak;have d7:=pR.out 7 ak;have d8:=pR.out 8 ak;simp only [dZ.cells,List.getElem?_cons_zero,List.getElem?_cons_succ,Nat.add_zero] at c0 c1 c2 c3 c4 c5 c6 c7 c8 d0 d1 d2 d3 d4 d5 d6 d7 d8;go_wp2;(go_quiet (fail));go_wp2;go_roundg (n-(i+1))
    (case measure=>omega);case rel=>exact ⟨i+1,aN,ak,ak,_,rfl⟩
  {obtain rfl:i=n:=ak;have hltz:¬ (i:Int)<(i:Int):=ak;go_wp2;go_ret;exact ⟨rfl,_,rfl⟩}
end Go.Proofs.YtjaebndajhppgaaGreatDoor
