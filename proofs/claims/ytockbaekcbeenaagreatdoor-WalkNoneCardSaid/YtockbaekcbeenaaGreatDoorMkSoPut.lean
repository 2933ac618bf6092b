/-SoPut-/
import Derived.Test.YtockbaekcbeenaaGreatDoorMkHd1
import Derived.Test.YtockbaekcbeenaaGreatDoorMkGSo2
import Derived.Test.YtockbaekcbeenaaGreatDoorMkGTri
set_option linter.unusedVariables false
set_option linter.unusedSimpArgs false
set_option maxRecDepth 100000
set_option maxHeartbeats 8000000
namespace Go.Proofs.YtockbaekcbeenaaGreatDoor
open Go.Proofs.Tryz
open Go.ChangeShapes Go.WideShapes Go.ChangeAt Go.RowKit
theorem aeI {w:World} {B:Nat} {v:Value} {l:List T3} (h:w.ownsRow B 63 3 v l.length (cO l)):bQ w v l:=by have h0:=h;rcases h.2 with ⟨rfl,h2⟩ | ⟨g,cp,cur,rfl,hg,hh,hcp,hcm,_⟩;{rw [List.eq_nil_of_length_eq_zero h2];exact bQ.nil w};{exact SA h0 hcp hcm}
theorem aeJ {w:World} {B:Nat} {v:Value} {l:List T3} (h:w.ownsRow B 63 3 v l.length (cO l)):fC B w (fun W=>bQ W v l):=
 fun w'' hw=>aeI (Oj h hw)
theorem aeK (a b:T3) (w:World):(binOp .eql 63 (.agg #[.int .i64 (a.1:Nat),aA a.2.1,aA a.2.2]) (.agg #[.int .i64 (b.1:Nat),aA b.2.1,aA b.2.2])).run prog w=.ok (.bool (decide (a=b))) w:=J4 a b w
theorem qU {W w1:World} {q:Nat} {A:List Value} {t:TypeId} {row:Option Nat} (h:aB W q A t) (hg:W.grownBy w1 row) (hne:row≠some q):aB w1 q A t:=by have hlt:=h.lt;unfold aB at h ⊢;rw [hg.block q hlt (fun e=>hne e.symm)];exact h
theorem F7 {W:World} {b:Nat} {A:List Value} {t:TypeId} (h:aB W b A t):∀ ad,some (⟨b,0,none⟩:Addr)=some ad→∀ j u,A[j]?=some u→W.cell? (ad.add j)=some u:=by intro ad had j u hu;cases had;rw [lG rfl,Nat.zero_add];exact h.cell hu
theorem KY (W:World) (B:Nat) (hB:B≤W.heap.size):(W.alloc (.cells #[] 63)).ownsRow B 63 3 (.slice (some ⟨W.heap.size,0,none⟩) 0 0) 0 []:=by have h:=World.ownsRow_made W (#[]:Array Value) 0 aG (by unfold maxLen;omega) rfl (e:=63) (size:=3);obtain ⟨h1,h2⟩:=h;refine ⟨h1,?_⟩;rcases h2 with h2 | ⟨g,cap,cur,e,hg,rest⟩;{exact .inl h2};{exact .inr ⟨g,cap,cur,e,ay,rest⟩}
theorem SG (W:World) (B:Nat) (o:Obj) (hB:B≤W.heap.size):((W.drew.alloc o).alloc (.cells #[] 63)).ownsRow B 63 3 (.slice (some ⟨W.heap.size+1,0,none⟩) 0 0) 0 []:=by have h:=KY (W.drew.alloc o) B (by simp;show B≤W.heap.size+1;omega);have e:(W.drew.alloc o).heap.size=W.heap.size+1:=aH;rw [e] at h;exact h
theorem SQ (W:World) (A:List Value):aB (W.drew.alloc (.cells A.toArray 63)) W.heap.size A 63:=aB.new W.drew A 63
theorem SS (W:World) (o:Obj) (A:List Value) (t:TypeId):aB ((W.drew.alloc o).alloc (.cells A.toArray t)) (W.heap.size+1) A t:=by have h:=aB.new (W.drew.alloc o) A t;have e:(W.drew.alloc o).heap.size=W.heap.size+1:=aH;rw [e] at h;exact h
theorem SV {L:List T3} {t:T3} {i N B:Nat} {w3:World} {v3:Value} (h:w3.ownsRow B 63 3 v3 N ((([]++cO (L.take i))++(bW t))++cO (L.drop i))) (hN:N=(L.take i++t::L.drop i).length):fC B w3 (fun W=>bQ W v3 (L.take i++t::L.drop i)):=by subst hN;refine aeJ (B:=B) ?_;rw [RP,show cO (t::L.drop i)=(bW t)++cO (L.drop i) from rfl,←List.append_assoc];exact h
theorem KZ (L:List T3) (hl:∀ t∈L,So.dH t) (hn:L.length≤100000) (t:T3) (ht:So.dH t) (w:World) (v:Value) (hv:bQ w v L) :
  Calls prog 47 #[v,vV t] w fun e w'=>∃ v',e=.returned v'∧bQ w' v' (So.put So.cT L t)∧(∀ B,B≤w.heap.size→fC B w (fun W=>bQ W v L)→fC B w' (fun W=>bQ W v' (So.put So.cT L t)))∧Below w.heap.size w w':=by
 obtain ⟨a,cap,rfl,hc1,hc2,hc3⟩:=hv.open;have HV:=aj hv;have HL:=aj hl;obtain ⟨n,hn0⟩:=aC L.length;rw [←hn0] at HV hn hc1 ⊢;have HN:=aj hn0;have HT:=aj ht;have CP:=aj (fun (x:T3) (hx:So.dH x) W=>aeG x t hx ht W);obtain ⟨n1,t1,x1⟩:=t;have HB1:=aj (show Below w.heap.size w (w.alloc (.cells #[.int .i64 (n1:Nat),aA t1,aA x1] 63)) from (Below.refl _ _).alloc aG _);have jE:=aj ((show aB (w.alloc (.cells #[.int .i64 (n1:Nat),aA t1,aA x1] 63)) w.heap.size [.int .i64 (n1:Nat),aA t1,aA x1] 63 from aB.new' rfl rfl));clear hv hl ht hn0;go_enter func47,ntmps47;go_upto_region 1 with fail
 show Code.wp _ _ _ _ (w.alloc (.cells #[.int .i64 (n1:Nat),aA t1,aA x1] 63));obtain ⟨wb,hwb⟩:=aC (w.alloc (.cells #[.int .i64 (n1:Nat),aA t1,aA x1] 63));rw [←hwb] at HB1 jE ⊢;clear hwb;go_wp2;go_loopg [5] n (fun gk s5 wr=>∃ (i:Nat),s5=.int .i64 i∧i≤n∧n-i≤gk∧Hid (Below wb.heap.size wb wr)∧Hid (∀ j (h:j<L.length),j<i→So.cT L[j] (n1,t1,x1)<0))
 case atStart=>exact ⟨0,aN,Nat.zero_le _,Nat.le_refl _,Below.refl _ _,aj (fun j h h2=>absurd h2 (Nat.not_lt_zero _))⟩
 case round=>
  obtain ⟨i,rfl,hin,hg,HB,gX⟩:=hrel;have K4:=aj (jE.out.keep HB.out);by_cases hlt:i<n
  · have hltz:(i:Int)<(n:Int):=ay;have K5:decide ((i:Int)<(n:Int))=true:=decide_eq_true hltz;have dz:i<L.length:=(by rw [←HN.out];exact hlt);have K6:=aj (HL.out L[i] (List.getElem_mem dz));have jB:=aj ((HV.out.keep HB1.out).keep HB.out);obtain ⟨bl,off,hab,hrow⟩:=jB.out.get (i:=i) dz;have HRW:=aj (hrow i dz);have sD:=aj (fun W=>CP.out L[i] K6.out W);obtain ⟨r,hr⟩:=aC (So.cT L[i] (n1,t1,x1));rw [←hr] at sD;have HR:=aj hr;obtain ⟨p,hp⟩:=aC (L[i]);rw [←hp] at HRW sD;have gG:=aj hp;clear hp hr hrow;obtain ⟨m1,u1,y1⟩:=p;have mV:=aj hab;subst hab;have sF:Hid (∀ W,Calls prog 75 #[dV (m1:Nat) u1 y1,dV (n1:Nat) t1 x1] W fun e w'=>e=.returned (.int .i64 r)∧Below W.heap.size W w'):=sD;clear sD;have c0:=HRW.out 0 ay;have c1:=HRW.out 1 ay;have c2:=HRW.out 2 ay;simp only [bW,List.getElem?_cons_zero,List.getElem?_cons_succ,Nat.add_zero] at c0 c1 c2;have k0:=fun p:Later wr.heap.size wr=>p.keep c0;have k1:=fun p:Later wr.heap.size wr=>p.keep c1;have k2:=fun p:Later wr.heap.size wr=>p.keep c2;obtain ⟨d0,d1,d2⟩:=bO K4.out;have j0:=fun p:Later wr.heap.size wr=>p.keep d0;have j1:=fun p:Later wr.heap.size wr=>p.keep d1;have j2:=fun p:Later wr.heap.size wr=>p.keep d2;by_cases hneg:r<0
    · have dn:decide (r<0)=true:=decide_eq_true hneg;(go_upto_region 2 with fail);refine dP wr.heap.size aF aF ?_;(repeat (go_big_quiet_step (first | (go_at_call 75;with_reducible exact Later.call aG (sF.out _)))));refine wpQuiet_nil ?_;rintro wq ⟨q,hq⟩;have d_:=aj (show Below wb.heap.size wb wq by rw [hq];exact aI HB.out q.low);clear hq q k0 k1 k2 j0 j1 j2;go_wp2;go_roundg (n-(i+1))
      (case measure=>omega);case rel=>exact ⟨i+1,aN,ay,ay,d_.out,by
       show ∀ _,_;intro j h hj;rcases Nat.lt_or_ge j i with h2 | h2;{exact gX.out j h h2}
       · obtain rfl:j=i:=ay;rw [←HR.out];exact hneg⟩
    · have dn:decide (r<0)=false:=decide_eq_false hneg;(go_upto_region 2 with fail);refine dP wr.heap.size aF aF ?_;(repeat (go_big_quiet_step (first | (go_at_call 75;with_reducible exact Later.call aG (sF.out _)))));refine wpQuiet_nil ?_;clear k0 k1 k2 j0 j1 j2;rintro wq ⟨q,hq⟩;have d_:=aj (show Below wb.heap.size wb wq by rw [hq];exact aI HB.out q.low);have dh:=aj (show Below wr.heap.size wr wq by rw [hq];exact q.low);clear hq q;have E0:=aeK (m1,u1,y1) (n1,t1,x1);simp only at E0;by_cases hz0:((m1,u1,y1):T3)=(n1,t1,x1);{have E4:=fun W=>(E0 W).trans (by rw [decide_eq_true hz0]);clear E0;have mZ:=aj (show So.put So.cT L (n1,t1,x1)=L from aeF dz gX.out (gG.out.symm.trans hz0));(go_upto_region 4 with fail);have k0:=fun p:Later wq.heap.size wq=>p.keep (aD dh.out c0);have k1:=fun p:Later wq.heap.size wq=>p.keep (aD dh.out c1);have k2:=fun p:Later wq.heap.size wq=>p.keep (aD dh.out c2);have j0:=fun p:Later wq.heap.size wq=>p.keep (aD dh.out d0);have j1:=fun p:Later wq.heap.size wq=>p.keep (aD dh.out d1);have j2:=fun p:Later wq.heap.size wq=>p.keep (aD dh.out d2);refine dP wq.heap.size aF aF ?_;(repeat (go_big_quiet_step (first | (go_at_call 75;with_reducible exact Later.call aG (sF.out _)))));refine wpQuiet_nil ?_;rintro wq2 ⟨q,hq⟩;clear k0 k1 k2 j0 j1 j2 c0 c1 c2 d0 d1 d2;have yY:=aj (show Below wb.heap.size wb wq2 by rw [hq];exact aI d_.out q.low);clear hq q;go_wp2;go_ret;exact ⟨_,rfl,by rw [mZ.out];exact (HV.out.keep HB1.out).keep yY.out,(fun B hB hF=>by rw [mZ.out];exact hF.keep (HB1.out.trans (yY.out.mono HB1.out.size))),HB1.out.trans (yY.out.mono HB1.out.size)⟩}
      · have E4:=fun W=>(E0 W).trans (by rw [decide_eq_false hz0]);clear E0;have mZ:=aj (show So.put So.cT L (n1,t1,x1)=L.take i++(n1,t1,x1)::L.drop i from SF (by rw [←HN.out];exact hin) gX.out (fun h=>⟨by rw [←HR.out];exact hneg,fun e=>hz0 (gG.out.trans e)⟩));clear hz0;(go_upto_region 4 with fail);have k0:=fun p:Later wq.heap.size wq=>p.keep (aD dh.out c0);have k1:=fun p:Later wq.heap.size wq=>p.keep (aD dh.out c1);have k2:=fun p:Later wq.heap.size wq=>p.keep (aD dh.out c2);have j0:=fun p:Later wq.heap.size wq=>p.keep (aD dh.out d0);have j1:=fun p:Later wq.heap.size wq=>p.keep (aD dh.out d1);have j2:=fun p:Later wq.heap.size wq=>p.keep (aD dh.out d2);refine dP wq.heap.size aF aF ?_;(repeat (go_big_quiet_step (first | (go_at_call 75;with_reducible exact Later.call aG (sF.out _)))));refine wpQuiet_nil ?_;rintro wq2 ⟨q,hq⟩;clear k0 k1 k2 j0 j1 j2 c0 c1 c2 d0 d1 d2;have aR:=aj (show Below wb.heap.size wb wq2 by rw [hq];exact aI d_.out q.low);have gF:=aj (show aB wq2 w.heap.size [.int .i64 (n1:Nat),aA t1,aA x1] 63 from jE.out.keep aR.out);have hzb:=jE.out.lt;clear hq q;obtain ⟨w6,eP⟩:=aC wq2;rw [←eP] at aR gF ⊢;clear eP;have hic:i<cap:=ay;have hA1:i≤cap:=ay;have aeL:¬ cap=i:=ay;have hA2:(i:Int)≤(cap:Int):=ay;have hA3:(n:Int)≤(cap:Int):=ay;have hA4:(i:Int)≤(n:Int):=ay;have o_:=aj ((HV.out.front i ay).keep HB1.out);have m_:=aj (show bQ wb (.slice (some ⟨bl,off,none⟩) i cap) (L.take i) from o_.out);have hlt1:(L.take i).length=i:=(by rw [List.length_take,←HN.out];omega);have lY:=aj (oU m_.out).2.1;have lZ:=aj (show (cO (L.take i)).length=i*3 by rw [uD,hlt1]);have F1:=aj (fun W (hW:Below wb.heap.size wb W)=>(oU (m_.out.keep hW)).2.2);have jF:=aj (show bQ wb (.slice (some ⟨bl,off+i*3,none⟩) (n-i) (cap-i)) (L.drop i) by exact (HV.out.back i ay).keep HB1.out);have wI:=aj (oU jF.out).2.1;have wJ:=aj (show (cO (L.drop i)).length=(n-i)*3 by rw [uD,←(oU jF.out).1]);have F2:=aj (fun W (hW:Below wb.heap.size wb W)=>(oU (jF.out.keep hW)).2.2);have wK:=aj (show 0+i+1+(n-i)=(L.take i++(n1,t1,x1)::L.drop i).length by have h:=(oU jF.out).1;rw [List.length_append,List.length_cons,hlt1,←h] <;> omega);clear hlt1;obtain ⟨iS,hi0,dx,dN,dO⟩:=FM;have jg:=aR.out.size;have K7:=gF.out.lt;have OA:=aj (KY w6.drew wb.heap.size jg);have HA:=aj (aR.out.drew.alloc jg (.cells #[] 63));have UA:=aj (show aB (w6.drew.alloc (.cells #[] 63)) w.heap.size [.int .i64 (n1:Nat),aA t1,aA x1] 63 from gF.out.alloc _);have OC:=aj (OA.out.alloc (.cells (bW (n1,t1,x1)).toArray 63));have HC:=aj (HA.out.alloc HA.out.size (.cells (bW (n1,t1,x1)).toArray 63));have UC:=aj (UA.out.alloc (.cells (bW (n1,t1,x1)).toArray 63));have TC:=aj (show aB ((w6.drew.alloc (.cells #[] 63)).alloc (.cells (bW (n1,t1,x1)).toArray 63)) (w6.heap.size+1) (bW (n1,t1,x1)) 63 from SS w6 _ _ _);have qb:=aj (aR.out.drew.alloc jg (.cells (bW (n1,t1,x1)).toArray 63));have OE:=aj (show ((w6.drew.alloc (.cells (bW (n1,t1,x1)).toArray 63)).alloc (.cells #[] 63)).ownsRow wb.heap.size 63 3 (.slice (some ⟨w6.heap.size+1,0,none⟩) 0 0) 0 [] from SG w6 wb.heap.size _ jg);have HE:=aj (qb.out.alloc qb.out.size (.cells #[] 63));have UE:=aj (show aB ((w6.drew.alloc (.cells (bW (n1,t1,x1)).toArray 63)).alloc (.cells #[] 63)) w.heap.size [.int .i64 (n1:Nat),aA t1,aA x1] 63 from (gF.out.alloc _).alloc _);have TE:=aj (show aB ((w6.drew.alloc (.cells (bW (n1,t1,x1)).toArray 63)).alloc (.cells #[] 63)) w6.heap.size (bW (n1,t1,x1)) 63 from (SQ w6 _).alloc _);obtain ⟨d0,d1,d2⟩:=bO gF.out;(go_upto_region 6 with fail);go_region_law (first
         | (refine fZ (by rfl) (.tmp 34) (.tmp 37) 52 (by rfl) wb.heap.size 63 iS _ 3 40 underlying52 hi0 dx dN dO rfl aL (.slice (some ⟨w6.heap.size,0,none⟩) 0 0) 0 [] (by rfl) OA.out (some ⟨bl,off,none⟩) i cap (cO (L.take i)) (by rfl) lY.out lZ.out (F1.out _ HA.out) (qO _) ?b1 ?b2 ?b3 ?_
            case b1=>(unfold maxLen;omega)
            case b2=>omega
            case b3=>exact HA.out.size
            intro v1 w1 g1 g2 g3
            have G1:=aj g1
            have bS:=aj (HA.out.grown g2 HA.out.size (fun k hk=>(OA.out.lt k hk).1))
            have iy:=aj (qU UA.out g2 (fun e=>by have:=(OA.out.lt _ e).1;omega))
            obtain ⟨k0,k1,k2⟩:=bO iy.out
            clear g1 g2 g3)
         | (refine fZ (by rfl) (.tmp 34) (.tmp 37) 52 (by rfl) wb.heap.size 63 iS _ 3 40 underlying52 hi0 dx dN dO rfl aL (.slice (some ⟨w6.heap.size,0,none⟩) 0 0) 0 [] (by rfl) OC.out (some ⟨bl,off,none⟩) i cap (cO (L.take i)) (by rfl) lY.out lZ.out (F1.out _ HC.out) (qO _) ?b1 ?b2 ?b3 ?_
            case b1=>(unfold maxLen;omega)
            case b2=>omega
            case b3=>exact HC.out.size
            intro v1 w1 g1 g2 g3
            have G1:=aj g1
            have bS:=aj (HC.out.grown g2 HC.out.size (fun k hk=>(OC.out.lt k hk).1))
            have iy:=aj (qU UC.out g2 (fun e=>by have:=(OC.out.lt _ e).1;omega))
            have wL:=aj (qU TC.out g2 (fun e=>by simp [Value.ownBlock] at e))
            obtain ⟨k0,k1,k2⟩:=bO iy.out
            clear g1 g2 g3)
         | (refine fZ (by rfl) (.tmp 34) (.tmp 37) 52 (by rfl) wb.heap.size 63 iS _ 3 40 underlying52 hi0 dx dN dO rfl aL (.slice (some ⟨w6.heap.size+1,0,none⟩) 0 0) 0 [] (by rfl) OE.out (some ⟨bl,off,none⟩) i cap (cO (L.take i)) (by rfl) lY.out lZ.out (F1.out _ HE.out) (qO _) ?b1 ?b2 ?b3 ?_
            case b1=>(unfold maxLen;omega)
            case b2=>omega
            case b3=>exact HE.out.size
            intro v1 w1 g1 g2 g3
            have G1:=aj g1
            have bS:=aj (HE.out.grown g2 HE.out.size (fun k hk=>(OE.out.lt k hk).1))
            have iy:=aj (qU UE.out g2 (fun e=>by have:=(OE.out.lt _ e).1;omega))
            have jG:=aj (qU TE.out g2 (fun e=>by simp [Value.ownBlock] at e))
            obtain ⟨k0,k1,k2⟩:=bO iy.out
            clear g1 g2 g3)
         | (refine fZ (by rfl) (.tmp 38) (.tmp 40) 52 (by rfl) wb.heap.size 63 iS _ 3 40 underlying52 hi0 dx dN dO rfl aL v1 (0+i) ([]++(cO (L.take i))) (by rfl) (G1.out.alloc _) (some ⟨w1.heap.size,0,none⟩) 1 1 (bW (n1,t1,x1)) (by rfl) (fun h=>by cases h) rfl (Kl w1 (bW (n1,t1,x1)) 63) (uh (n1,t1,x1)) ?b1 ?b2 ?b3 ?_
            case b1=>(unfold maxLen;omega)
            case b2=>omega
            case b3=>exact (bS.out.alloc bS.out.size _).size
            intro v2 w2 g1 g2 g3
            have G2:=aj g1
            have gH:=aj ((bS.out.alloc bS.out.size _).grown g2 (bS.out.alloc bS.out.size _).size (fun k hk=>(G1.out.lt k hk).1))
            clear g1 g2 g3)
         | (refine fZ (by rfl) (.tmp 38) (.tmp 40) 52 (by rfl) wb.heap.size 63 iS _ 3 40 underlying52 hi0 dx dN dO rfl aL v1 (0+i) ([]++(cO (L.take i))) (by rfl) G1.out (some ⟨w6.heap.size+1,0,none⟩) 1 1 (bW (n1,t1,x1)) (by rfl) (fun h=>by cases h) rfl (F7 wL.out) (uh (n1,t1,x1)) ?b1 ?b2 ?b3 ?_
            case b1=>(unfold maxLen;omega)
            case b2=>omega
            case b3=>exact bS.out.size
            intro v2 w2 g1 g2 g3
            have G2:=aj g1
            have gH:=aj (bS.out.grown g2 bS.out.size (fun k hk=>(G1.out.lt k hk).1))
            clear g1 g2 g3)
         | (refine fZ (by rfl) (.tmp 38) (.tmp 40) 52 (by rfl) wb.heap.size 63 iS _ 3 40 underlying52 hi0 dx dN dO rfl aL v1 (0+i) ([]++(cO (L.take i))) (by rfl) G1.out (some ⟨w6.heap.size,0,none⟩) 1 1 (bW (n1,t1,x1)) (by rfl) (fun h=>by cases h) rfl (F7 jG.out) (uh (n1,t1,x1)) ?b1 ?b2 ?b3 ?_
            case b1=>(unfold maxLen;omega)
            case b2=>omega
            case b3=>exact bS.out.size
            intro v2 w2 g1 g2 g3
            have G2:=aj g1
            have gH:=aj (bS.out.grown g2 bS.out.size (fun k hk=>(G1.out.lt k hk).1))
            clear g1 g2 g3)
         | (refine fZ (by rfl) (.tmp 41) (.tmp 44) 52 (by rfl) wb.heap.size 63 iS _ 3 40 underlying52 hi0 dx dN dO rfl aL v2 (0+i+1) (([]++(cO (L.take i)))++(bW (n1,t1,x1))) (by rfl) G2.out (some ⟨bl,off+i*3,none⟩) (n-i) (cap-i) (cO (L.drop i)) (by rfl) wI.out wJ.out (F2.out _ gH.out) (qO _) ?b1 ?b2 ?b3 ?_
            case b1=>(unfold maxLen;omega)
            case b2=>omega
            case b3=>exact gH.out.size
            intro v3 w3 g1 g2 g3
            have G3:=aj g1
            have wN:=aj (gH.out.grown g2 gH.out.size (fun k hk=>(G2.out.lt k hk).1))
            clear g1 g2 g3)
         | fail)
        all_goals
         have sG:=aj (SV (L:=L) (t:=(n1,t1,x1)) (i:=i) G3.out wK.out)
         go_wp2
         go_ret
         exact ⟨v3,rfl,by rw [mZ.out];exact sG.out.it,(fun B hB _=>by rw [mZ.out];exact sG.out.mono (Nat.le_trans hB HB1.out.size)),HB1.out.trans (wN.out.mono HB1.out.size)⟩
  · obtain rfl:i=n:=ay;have hltz:¬ (i:Int)<(i:Int):=ay;have K5:decide ((i:Int)<(i:Int))=false:=decide_eq_false hltz;have mZ:=aj (show So.put So.cT L (n1,t1,x1)=L.take i++(n1,t1,x1)::L.drop i from SF (by rw [←HN.out];exact hin) gX.out (fun h=>by have:=HN.out;omega));(go_upto_region 2 with fail);refine dP wr.heap.size aF aF ?_;(repeat (go_big_quiet_step (first | fail)));refine wpQuiet_nil ?_;rintro wq ⟨q,hq⟩;have d_:=aj (show Below wb.heap.size wb wq by rw [hq];exact aI HB.out q.low);clear hq q;(go_upto_region 4 with fail);refine dP wq.heap.size aF aF ?_;(repeat (go_big_quiet_step (first | fail)));refine wpQuiet_nil ?_;rintro wq2 ⟨q,hq⟩;have aR:=aj (show Below wb.heap.size wb wq2 by rw [hq];exact aI d_.out q.low);have gF:=aj (show aB wq2 w.heap.size [.int .i64 (n1:Nat),aA t1,aA x1] 63 from jE.out.keep aR.out);have hzb:=jE.out.lt;clear hq q;obtain ⟨w6,eP⟩:=aC wq2;rw [←eP] at aR gF ⊢;clear eP;have hde:L.drop i=[]:=(by rw [List.drop_eq_nil_of_le (by rw [←HN.out];exact Nat.le_refl _)]);obtain ⟨fa,fc,ba,bc,hS1,hS2,K8,hB0⟩:∃ (fa:Option Addr) (fc:Nat) (ba:Option Addr) (bc:Nat),(∀ W,(Instr.sliceAt 52 (.slice a i cap) none (some (.int .i64 (i:Int))) none).run prog W=.ok (.slice fa i fc) W)∧(∀ W,(Instr.sliceAt 52 (.slice a i cap) (some (.int .i64 (i:Int))) none none).run prog W=.ok (.slice ba 0 bc) W)∧bQ wb (.slice fa i fc) (L.take i)∧bQ wb (.slice ba 0 bc) (L.drop i):=(by have hA1:(i:Int)≤(cap:Int):=ay;have sH:∀ x c,c≤maxLen→(x=none→c=0)→bQ wb (.slice x 0 c) (L.drop i):=fun x c h1 h2=>(by rw [hde];exact ⟨_,_,rfl,Nat.zero_le _,h1,h2,.inl rfl⟩);have sI:bQ wb (.slice a i cap) (L.take i):=(by exact (HV.out.front i ay).keep HB1.out);have hz0:(0:Nat)≤maxLen:=(by unfold maxLen;omega);rcases Nat.eq_zero_or_pos i with sJ | sJ;{subst sJ;rcases a with _ | ad;{obtain rfl:cap=0:=hc3 rfl;exact ⟨none,0,none,0,fun W=>by simp [go_sem],fun W=>by simp [go_sem],sI,sH _ _ hz0 (fun _=>rfl)⟩};{exact ⟨some ad,cap,some ad,cap,fun W=>by simp [go_sem],fun W=>by simp [go_sem],sI,sH _ _ ay (fun h=>by cases h)⟩}};{obtain ⟨bl,off,rfl,hrow⟩:=HV.out.get (i:=0) (by first | (rw [List.length_map,←HN.out];exact sJ) | (rw [←HN.out];exact sJ));clear hrow;by_cases hck:cap=i;{subst hck;exact ⟨some ⟨bl,off,none⟩,cap,some ⟨bl,off,none⟩,0,fun W=>by simp [go_sem],fun W=>by simp [go_sem],sI,sH _ _ hz0 (fun h=>by cases h)⟩};{have K9:¬ cap-i=0:=ay;exact ⟨some ⟨bl,off,none⟩,cap,some ⟨bl,off+i*3,none⟩,cap-i,fun W=>by simp [go_sem,hA1],fun W=>by simp [go_sem,hA1,hck,K9],sI,sH _ _ ay (fun h=>by cases h)⟩}});obtain ⟨v0,hv0⟩:=aC (Value.slice a i cap);rw [←hv0] at hS1 hS2 ⊢;clear hv0;have hA2:(i:Int)≤(cap:Int):=ay;have m_:=aj K8;have hlt1:(L.take i).length=i:=(by rw [List.length_take,←HN.out];omega);have lY:=aj (oU m_.out).2.1;have lZ:=aj (show (cO (L.take i)).length=i*3 by rw [uD,hlt1]);have F1:=aj (fun W (hW:Below wb.heap.size wb W)=>(oU (m_.out.keep hW)).2.2);have jF:=aj hB0;have wI:=aj (oU jF.out).2.1;have wJ:=aj (show (cO (L.drop i)).length=0*3 by rw [uD,←(oU jF.out).1]);have F2:=aj (fun W (hW:Below wb.heap.size wb W)=>(oU (jF.out.keep hW)).2.2);have wK:=aj (show 0+i+1+0=(L.take i++(n1,t1,x1)::L.drop i).length by have h:=(oU jF.out).1;rw [List.length_append,List.length_cons,hlt1,←h] <;> omega);clear hlt1;obtain ⟨iS,hi0,dx,dN,dO⟩:=FM;have jg:=aR.out.size;have K7:=gF.out.lt;have OA:=aj (KY w6.drew wb.heap.size jg);have HA:=aj (aR.out.drew.alloc jg (.cells #[] 63));have UA:=aj (show aB (w6.drew.alloc (.cells #[] 63)) w.heap.size [.int .i64 (n1:Nat),aA t1,aA x1] 63 from gF.out.alloc _);have OC:=aj (OA.out.alloc (.cells (bW (n1,t1,x1)).toArray 63));have HC:=aj (HA.out.alloc HA.out.size (.cells (bW (n1,t1,x1)).toArray 63));have UC:=aj (UA.out.alloc (.cells (bW (n1,t1,x1)).toArray 63));have TC:=aj (show aB ((w6.drew.alloc (.cells #[] 63)).alloc (.cells (bW (n1,t1,x1)).toArray 63)) (w6.heap.size+1) (bW (n1,t1,x1)) 63 from SS w6 _ _ _);have qb:=aj (aR.out.drew.alloc jg (.cells (bW (n1,t1,x1)).toArray 63));have OE:=aj (show ((w6.drew.alloc (.cells (bW (n1,t1,x1)).toArray 63)).alloc (.cells #[] 63)).ownsRow wb.heap.size 63 3 (.slice (some ⟨w6.heap.size+1,0,none⟩) 0 0) 0 [] from SG w6 wb.heap.size _ jg);have HE:=aj (qb.out.alloc qb.out.size (.cells #[] 63));have UE:=aj (show aB ((w6.drew.alloc (.cells (bW (n1,t1,x1)).toArray 63)).alloc (.cells #[] 63)) w.heap.size [.int .i64 (n1:Nat),aA t1,aA x1] 63 from (gF.out.alloc _).alloc _);have TE:=aj (show aB ((w6.drew.alloc (.cells (bW (n1,t1,x1)).toArray 63)).alloc (.cells #[] 63)) w6.heap.size (bW (n1,t1,x1)) 63 from (SQ w6 _).alloc _);obtain ⟨d0,d1,d2⟩:=bO gF.out;(go_upto_region 6 with fail);go_region_law (first
     | (refine fZ (by rfl) (.tmp 34) (.tmp 37) 52 (by rfl) wb.heap.size 63 iS _ 3 40 underlying52 hi0 dx dN dO rfl aL (.slice (some ⟨w6.heap.size,0,none⟩) 0 0) 0 [] (by rfl) OA.out fa i fc (cO (L.take i)) (by rfl) lY.out lZ.out (F1.out _ HA.out) (qO _) ?b1 ?b2 ?b3 ?_
        case b1=>(unfold maxLen;omega)
        case b2=>omega
        case b3=>exact HA.out.size
        intro v1 w1 g1 g2 g3
        have G1:=aj g1
        have bS:=aj (HA.out.grown g2 HA.out.size (fun k hk=>(OA.out.lt k hk).1))
        have iy:=aj (qU UA.out g2 (fun e=>by have:=(OA.out.lt _ e).1;omega))
        obtain ⟨k0,k1,k2⟩:=bO iy.out
        clear g1 g2 g3)
     | (refine fZ (by rfl) (.tmp 34) (.tmp 37) 52 (by rfl) wb.heap.size 63 iS _ 3 40 underlying52 hi0 dx dN dO rfl aL (.slice (some ⟨w6.heap.size,0,none⟩) 0 0) 0 [] (by rfl) OC.out fa i fc (cO (L.take i)) (by rfl) lY.out lZ.out (F1.out _ HC.out) (qO _) ?b1 ?b2 ?b3 ?_
        case b1=>(unfold maxLen;omega)
        case b2=>omega
        case b3=>exact HC.out.size
        intro v1 w1 g1 g2 g3
        have G1:=aj g1
        have bS:=aj (HC.out.grown g2 HC.out.size (fun k hk=>(OC.out.lt k hk).1))
        have iy:=aj (qU UC.out g2 (fun e=>by have:=(OC.out.lt _ e).1;omega))
        have wL:=aj (qU TC.out g2 (fun e=>by simp [Value.ownBlock] at e))
        obtain ⟨k0,k1,k2⟩:=bO iy.out
        clear g1 g2 g3)
     | (refine fZ (by rfl) (.tmp 34) (.tmp 37) 52 (by rfl) wb.heap.size 63 iS _ 3 40 underlying52 hi0 dx dN dO rfl aL (.slice (some ⟨w6.heap.size+1,0,none⟩) 0 0) 0 [] (by rfl) OE.out fa i fc (cO (L.take i)) (by rfl) lY.out lZ.out (F1.out _ HE.out) (qO _) ?b1 ?b2 ?b3 ?_
        case b1=>(unfold maxLen;omega)
        case b2=>omega
        case b3=>exact HE.out.size
        intro v1 w1 g1 g2 g3
        have G1:=aj g1
        have bS:=aj (HE.out.grown g2 HE.out.size (fun k hk=>(OE.out.lt k hk).1))
        have iy:=aj (qU UE.out g2 (fun e=>by have:=(OE.out.lt _ e).1;omega))
        have jG:=aj (qU TE.out g2 (fun e=>by simp [Value.ownBlock] at e))
        obtain ⟨k0,k1,k2⟩:=bO iy.out
        clear g1 g2 g3)
     | (refine fZ (by rfl) (.tmp 38) (.tmp 40) 52 (by rfl) wb.heap.size 63 iS _ 3 40 underlying52 hi0 dx dN dO rfl aL v1 (0+i) ([]++(cO (L.take i))) (by rfl) (G1.out.alloc _) (some ⟨w1.heap.size,0,none⟩) 1 1 (bW (n1,t1,x1)) (by rfl) (fun h=>by cases h) rfl (Kl w1 (bW (n1,t1,x1)) 63) (uh (n1,t1,x1)) ?b1 ?b2 ?b3 ?_
        case b1=>(unfold maxLen;omega)
        case b2=>omega
        case b3=>exact (bS.out.alloc bS.out.size _).size
        intro v2 w2 g1 g2 g3
        have G2:=aj g1
        have gH:=aj ((bS.out.alloc bS.out.size _).grown g2 (bS.out.alloc bS.out.size _).size (fun k hk=>(G1.out.lt k hk).1))
        clear g1 g2 g3)
     | (refine fZ (by rfl) (.tmp 38) (.tmp 40) 52 (by rfl) wb.heap.size 63 iS _ 3 40 underlying52 hi0 dx dN dO rfl aL v1 (0+i) ([]++(cO (L.take i))) (by rfl) G1.out (some ⟨w6.heap.size+1,0,none⟩) 1 1 (bW (n1,t1,x1)) (by rfl) (fun h=>by cases h) rfl (F7 wL.out) (uh (n1,t1,x1)) ?b1 ?b2 ?b3 ?_
        case b1=>(unfold maxLen;omega)
        case b2=>omega
        case b3=>exact bS.out.size
        intro v2 w2 g1 g2 g3
        have G2:=aj g1
        have gH:=aj (bS.out.grown g2 bS.out.size (fun k hk=>(G1.out.lt k hk).1))
        clear g1 g2 g3)
     | (refine fZ (by rfl) (.tmp 38) (.tmp 40) 52 (by rfl) wb.heap.size 63 iS _ 3 40 underlying52 hi0 dx dN dO rfl aL v1 (0+i) ([]++(cO (L.take i))) (by rfl) G1.out (some ⟨w6.heap.size,0,none⟩) 1 1 (bW (n1,t1,x1)) (by rfl) (fun h=>by cases h) rfl (F7 jG.out) (uh (n1,t1,x1)) ?b1 ?b2 ?b3 ?_
        case b1=>(unfold maxLen;omega)
        case b2=>omega
        case b3=>exact bS.out.size
        intro v2 w2 g1 g2 g3
        have G2:=aj g1
        have gH:=aj (bS.out.grown g2 bS.out.size (fun k hk=>(G1.out.lt k hk).1))
        clear g1 g2 g3)
     | (refine fZ (by rfl) (.tmp 41) (.tmp 44) 52 (by rfl) wb.heap.size 63 iS _ 3 40 underlying52 hi0 dx dN dO rfl aL v2 (0+i+1) (([]++(cO (L.take i)))++(bW (n1,t1,x1))) (by rfl) G2.out ba 0 bc (cO (L.drop i)) (by rfl) wI.out wJ.out (F2.out _ gH.out) (qO _) ?b1 ?b2 ?b3 ?_
        case b1=>(unfold maxLen;omega)
        case b2=>omega
        case b3=>exact gH.out.size
        intro v3 w3 g1 g2 g3
        have G3:=aj g1
        have wN:=aj (gH.out.grown g2 gH.out.size (fun k hk=>(G2.out.lt k hk).1))
        clear g1 g2 g3)
     | fail)
    all_goals
     have sG:=aj (SV (L:=L) (t:=(n1,t1,x1)) (i:=i) G3.out wK.out)
     go_wp2
     go_ret
     exact ⟨v3,rfl,by rw [mZ.out];exact sG.out.it,(fun B hB _=>by rw [mZ.out];exact sG.out.mono (Nat.le_trans hB HB1.out.size)),HB1.out.trans (wN.out.mono HB1.out.size)⟩
end Go.Proofs.YtockbaekcbeenaaGreatDoor
