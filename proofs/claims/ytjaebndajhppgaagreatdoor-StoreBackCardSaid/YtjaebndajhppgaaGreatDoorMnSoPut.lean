/-SoPut-/
import Derived.Test.YtjaebndajhppgaaGreatDoorMnGSo2
import Derived.Test.YtjaebndajhppgaaGreatDoorMnGTri
set_option linter.unusedVariables false
set_option linter.unusedSimpArgs false
set_option maxRecDepth 100000
set_option maxHeartbeats 8000000
namespace Go.Proofs.YtjaebndajhppgaaGreatDoor
open Go.ChangeShapes Go.WideShapes Go.ChangeAt Go.RowKit
theorem acD {w:World} {B:Nat} {v:Value} {l:List T3} (h:w.ownsRow B 61 3 v l.length (bS l)):bC w v l:=by have h0:=h;rcases h.2 with ⟨rfl,h2⟩ | ⟨g,cp,cur,rfl,hg,hh,hcp,hcm,_⟩;{rw [List.eq_nil_of_length_eq_zero h2];exact bC.nil w};{exact OQ h0 hcp hcm}
theorem acE {w:World} {B:Nat} {v:Value} {l:List T3} (h:w.ownsRow B 61 3 v l.length (bS l)):cu B w (fun W=>bC W v l):=
 fun w'' hw=>acD (Ef h hw)
theorem acF (a b:T3) (w:World):(binOp .eql 61 (.agg #[.int .i64 (a.1:Nat),str a.2.1,str a.2.2]) (.agg #[.int .i64 (b.1:Nat),str b.2.1,str b.2.2])).run Tryz.prog w=.ok (.bool (decide (a=b))) w:=Fa a b w
theorem nH {W w1:World} {q:Nat} {A:List Value} {t:TypeId} {row:Option Nat} (h:aj W q A t) (hg:W.grownBy w1 row) (hne:row≠some q):aj w1 q A t:=by have hlt:=h.lt;unfold aj at h ⊢;rw [hg.block q hlt (fun e=>hne e.symm)];exact h
theorem Bt {W:World} {b:Nat} {A:List Value} {t:TypeId} (h:aj W b A t):∀ ad,some (⟨b,0,none⟩:Addr)=some ad→∀ j u,A[j]?=some u→W.cell? (ad.add j)=some u:=by intro ad had j u hu;cases had;rw [iF rfl,Nat.zero_add];exact h.cell hu
theorem Gx (W:World) (B:Nat) (hB:B≤W.heap.size):(W.alloc (.cells #[] 61)).ownsRow B 61 3 (.slice (some ⟨W.heap.size,0,none⟩) 0 0) 0 []:=by have h:=World.ownsRow_made W (#[]:Array Value) 0 (Nat.le_refl _) (by unfold maxLen;omega) rfl (e:=61) (size:=3);obtain ⟨h1,h2⟩:=h;refine ⟨h1,?_⟩;rcases h2 with h2 | ⟨g,cap,cur,e,hg,rest⟩;{exact .inl h2};{exact .inr ⟨g,cap,cur,e,by omega,rest⟩}
theorem Ph (W:World) (B:Nat) (o:Obj) (hB:B≤W.heap.size):((W.drew.alloc o).alloc (.cells #[] 61)).ownsRow B 61 3 (.slice (some ⟨W.heap.size+1,0,none⟩) 0 0) 0 []:=by
 have h:=Gx (W.drew.alloc o) B (by simp;show B≤W.heap.size+1;omega);have e:(W.drew.alloc o).heap.size=W.heap.size+1:=by simp
 rw [e] at h;exact h
theorem Pj (W:World) (A:List Value):aj (W.drew.alloc (.cells A.toArray 61)) W.heap.size A 61:=aj.new W.drew A 61
theorem Pk (W:World) (o:Obj) (A:List Value) (t:TypeId):aj ((W.drew.alloc o).alloc (.cells A.toArray t)) (W.heap.size+1) A t:=by
 have h:=aj.new (W.drew.alloc o) A t;have e:(W.drew.alloc o).heap.size=W.heap.size+1:=by simp
 rw [e] at h;exact h
theorem Pn {L:List T3} {t:T3} {i N B:Nat} {w3:World} {v3:Value} (h:w3.ownsRow B 61 3 v3 N ((([]++bS (L.take i))++(bG t))++bS (L.drop i))) (hN:N=(L.take i++t::L.drop i).length):cu B w3 (fun W=>bC W v3 (L.take i++t::L.drop i)):=by subst hN;refine acE (B:=B) ?_;rw [NK,show bS (t::L.drop i)=(bG t)++bS (L.drop i) from rfl,←List.append_assoc];exact h
theorem Gy (L:List T3) (hl:∀ t∈L,So.bX t) (hn:L.length≤100000) (t:T3) (ht:So.bX t) (w:World) (v:Value) (hv:bC w v L) :
  Calls Tryz.prog 64 #[v,nZ t] w fun e w'=>∃ v',e=.returned v'∧bC w' v' (So.put So.cT L t)∧(∀ B,B≤w.heap.size→cu B w (fun W=>bC W v L)→cu B w' (fun W=>bC W v' (So.put So.cT L t)))∧Below w.heap.size w w':=by
 obtain ⟨a,cap,rfl,hc1,hc2,hc3⟩:=hv.open;have HV:=hid hv;have HL:=hid hl;obtain ⟨n,hn0⟩:∃ n,n=L.length:=⟨_,rfl⟩;rw [←hn0] at HV hn hc1 ⊢;have HN:=hid hn0;have HT:=hid ht;have CP:=hid (fun (x:T3) (hx:So.bX x) W=>acB x t hx ht W);obtain ⟨n1,t1,x1⟩:=t;have HB1:=hid (show Below w.heap.size w (w.alloc (.cells #[.int .i64 (n1:Nat),str t1,str x1] 61)) from (Below.refl _ _).alloc (Nat.le_refl _) _);have gZ:=hid ((show aj (w.alloc (.cells #[.int .i64 (n1:Nat),str t1,str x1] 61)) w.heap.size [.int .i64 (n1:Nat),str t1,str x1] 61 from aj.new' rfl rfl));clear hv hl ht hn0;go_enter Tryz.func64,Tryz.ntmps64;go_upto_region 1 with fail
 show Code.wp _ _ _ _ (w.alloc (.cells #[.int .i64 (n1:Nat),str t1,str x1] 61));obtain ⟨wb,hwb⟩:∃ wb,wb=w.alloc (.cells #[.int .i64 (n1:Nat),str t1,str x1] 61):=⟨_,rfl⟩;rw [←hwb] at HB1 gZ ⊢;clear hwb;go_wp2;go_loopg [5] n (fun gk s5 wr=>∃ (i:Nat),s5=.int .i64 i∧i≤n∧n-i≤gk∧Hid (Below wb.heap.size wb wr)∧Hid (∀ j (h:j<L.length),j<i→So.cT L[j] (n1,t1,x1)<0))
 case atStart=>exact ⟨0,by go_num,Nat.zero_le _,Nat.le_refl _,Below.refl _ _,hid (fun j h h2=>absurd h2 (Nat.not_lt_zero _))⟩
 case round=>
  obtain ⟨i,rfl,hin,hg,HB,fD⟩:=hrel;have kP:=hid (gZ.out.keep HB.out);by_cases hlt:i<n
  · have hltz:(i:Int)<(n:Int):=(by omega);have Gq:decide ((i:Int)<(n:Int))=true:=decide_eq_true hltz;have aZ:i<L.length:=(by rw [←HN.out];exact hlt);have Gr:=hid (HL.out L[i] (List.getElem_mem aZ));have gD:=hid ((HV.out.keep HB1.out).keep HB.out);obtain ⟨bl,off,hab,hrow⟩:=gD.out.get (i:=i) aZ;have HRW:=hid (hrow i aZ);have oI:=hid (fun W=>CP.out L[i] Gr.out W);obtain ⟨r,hr⟩:∃ r,r=So.cT L[i] (n1,t1,x1):=⟨_,rfl⟩;rw [←hr] at oI;have HR:=hid hr;obtain ⟨p,hp⟩:∃ p,p=L[i]:=⟨_,rfl⟩;rw [←hp] at HRW oI;have iZ:=hid hp;clear hp hr hrow;obtain ⟨m1,u1,y1⟩:=p;have ko:=hid hab;subst hab;have oJ:Hid (∀ W,Calls Tryz.prog 31 #[bY (m1:Nat) u1 y1,bY (n1:Nat) t1 x1] W fun e w'=>e=.returned (.int .i64 r)∧Below W.heap.size W w'):=oI;clear oI;have c0:=HRW.out 0 (by omega);have c1:=HRW.out 1 (by omega);have c2:=HRW.out 2 (by omega);simp only [bG,List.getElem?_cons_zero,List.getElem?_cons_succ,Nat.add_zero] at c0 c1 c2;have k0:=fun p:Later wr.heap.size wr=>p.keep c0;have k1:=fun p:Later wr.heap.size wr=>p.keep c1;have k2:=fun p:Later wr.heap.size wr=>p.keep c2;have d0:=kP.out.cell (i:=0) rfl;have d1:=kP.out.cell (i:=1) rfl;have d2:=kP.out.cell (i:=2) rfl;have j0:=fun p:Later wr.heap.size wr=>p.keep d0;have j1:=fun p:Later wr.heap.size wr=>p.keep d1;have j2:=fun p:Later wr.heap.size wr=>p.keep d2;by_cases hneg:r<0
    · have dn:decide (r<0)=true:=decide_eq_true hneg;(go_upto_region 2 with fail);refine fA wr.heap.size (by kernel_rfl) (by kernel_rfl) ?_;(repeat (go_big_quiet_step (first | (go_at_call 31;with_reducible exact Later.call (Nat.le_refl _) (oJ.out _)))));refine wpQuiet_nil ?_;rintro wq ⟨q,hq⟩;have f_:=hid (show Below wb.heap.size wb wq by rw [hq];exact aA HB.out q.low);clear hq q k0 k1 k2 j0 j1 j2;go_wp2;go_roundg (n-(i+1))
      (case measure=>omega);case rel=>exact ⟨i+1,by go_num,by omega,by omega,f_.out,by
       show ∀ _,_;intro j h hj;rcases Nat.lt_or_ge j i with h2 | h2;{exact fD.out j h h2}
       · obtain rfl:j=i:=(by omega);rw [←HR.out];exact hneg⟩
    · have dn:decide (r<0)=false:=decide_eq_false hneg;(go_upto_region 2 with fail);refine fA wr.heap.size (by kernel_rfl) (by kernel_rfl) ?_;(repeat (go_big_quiet_step (first | (go_at_call 31;with_reducible exact Later.call (Nat.le_refl _) (oJ.out _)))));refine wpQuiet_nil ?_;clear k0 k1 k2 j0 j1 j2;rintro wq ⟨q,hq⟩;have f_:=hid (show Below wb.heap.size wb wq by rw [hq];exact aA HB.out q.low);have bT:=hid (show Below wr.heap.size wr wq by rw [hq];exact q.low);clear hq q;have E0:=acF (m1,u1,y1) (n1,t1,x1);simp only at E0;by_cases hz0:((m1,u1,y1):T3)=(n1,t1,x1);{have E4:=fun W=>(E0 W).trans (by rw [decide_eq_true hz0]);clear E0;have ku:=hid (show So.put So.cT L (n1,t1,x1)=L from acA aZ fD.out (iZ.out.symm.trans hz0));(go_upto_region 4 with fail);have k0:=fun p:Later wq.heap.size wq=>p.keep (ak bT.out c0);have k1:=fun p:Later wq.heap.size wq=>p.keep (ak bT.out c1);have k2:=fun p:Later wq.heap.size wq=>p.keep (ak bT.out c2);have j0:=fun p:Later wq.heap.size wq=>p.keep (ak bT.out d0);have j1:=fun p:Later wq.heap.size wq=>p.keep (ak bT.out d1);have j2:=fun p:Later wq.heap.size wq=>p.keep (ak bT.out d2);refine fA wq.heap.size (by kernel_rfl) (by kernel_rfl) ?_;(repeat (go_big_quiet_step (first | (go_at_call 31;with_reducible exact Later.call (Nat.le_refl _) (oJ.out _)))));refine wpQuiet_nil ?_;rintro wq2 ⟨q,hq⟩;clear k0 k1 k2 j0 j1 j2 c0 c1 c2 d0 d1 d2;have uM:=hid (show Below wb.heap.size wb wq2 by rw [hq];exact aA f_.out q.low);clear hq q;go_wp2;go_ret;exact ⟨_,rfl,by rw [ku.out];exact (HV.out.keep HB1.out).keep uM.out,(fun B hB hF=>by rw [ku.out];exact hF.keep (HB1.out.trans (uM.out.mono HB1.out.size))),HB1.out.trans (uM.out.mono HB1.out.size)⟩}
      · have E4:=fun W=>(E0 W).trans (by rw [decide_eq_false hz0]);clear E0;have ku:=hid (show So.put So.cT L (n1,t1,x1)=L.take i++(n1,t1,x1)::L.drop i from Pg (by rw [←HN.out];exact hin) fD.out (fun h=>⟨by rw [←HR.out];exact hneg,fun e=>hz0 (iZ.out.trans e)⟩));clear hz0;(go_upto_region 4 with fail);have k0:=fun p:Later wq.heap.size wq=>p.keep (ak bT.out c0);have k1:=fun p:Later wq.heap.size wq=>p.keep (ak bT.out c1);have k2:=fun p:Later wq.heap.size wq=>p.keep (ak bT.out c2);have j0:=fun p:Later wq.heap.size wq=>p.keep (ak bT.out d0);have j1:=fun p:Later wq.heap.size wq=>p.keep (ak bT.out d1);have j2:=fun p:Later wq.heap.size wq=>p.keep (ak bT.out d2);refine fA wq.heap.size (by kernel_rfl) (by kernel_rfl) ?_;(repeat (go_big_quiet_step (first | (go_at_call 31;with_reducible exact Later.call (Nat.le_refl _) (oJ.out _)))));refine wpQuiet_nil ?_;rintro wq2 ⟨q,hq⟩;clear k0 k1 k2 j0 j1 j2 c0 c1 c2 d0 d1 d2;have aP:=hid (show Below wb.heap.size wb wq2 by rw [hq];exact aA f_.out q.low);have aV:=hid (show aj wq2 w.heap.size [.int .i64 (n1:Nat),str t1,str x1] 61 from gZ.out.keep aP.out);have hzb:=gZ.out.lt;clear hq q;obtain ⟨w6,dh⟩:∃ w6,w6=wq2:=⟨_,rfl⟩;rw [←dh] at aP aV ⊢;clear dh;have hic:i<cap:=(by omega);have hA1:i≤cap:=(by omega);have acs:¬ cap=i:=(by omega);have hA2:(i:Int)≤(cap:Int):=(by omega);have hA3:(n:Int)≤(cap:Int):=(by omega);have Gs:(i:Int)≤(n:Int):=(by omega);have lZ:=hid ((HV.out.front i (by omega)).keep HB1.out);have mJ:=hid (show bC wb (.slice (some ⟨bl,off,none⟩) i cap) (L.take i) from lZ.out);have hlt1:(L.take i).length=i:=(by rw [List.length_take,←HN.out];omega);have jH:=hid (lQ mJ.out).2.1;have jI:=hid (show (bS (L.take i)).length=i*3 by rw [qb,hlt1]);have F1:=hid (fun W (hW:Below wb.heap.size wb W)=>(lQ (mJ.out.keep hW)).2.2);have h_:=hid (show bC wb (.slice (some ⟨bl,off+i*3,none⟩) (n-i) (cap-i)) (L.drop i) by exact (HV.out.back i (by omega)).keep HB1.out);have rQ:=hid (lQ h_.out).2.1;have rR:=hid (show (bS (L.drop i)).length=(n-i)*3 by rw [qb,←(lQ h_.out).1]);have F2:=hid (fun W (hW:Below wb.heap.size wb W)=>(lQ (h_.out.keep hW)).2.2);have rT:=hid (show 0+i+1+(n-i)=(L.take i++(n1,t1,x1)::L.drop i).length by have h:=(lQ h_.out).1;rw [List.length_append,List.length_cons,hlt1,←h] <;> omega);clear hlt1;obtain ⟨iS,hi0,bH,bI,bJ⟩:=AY;have gM:=aP.out.size;have Gt:=aV.out.lt;have OA:=hid (Gx w6.drew wb.heap.size gM);have HA:=hid (aP.out.drew.alloc gM (.cells #[] 61));have UA:=hid (show aj (w6.drew.alloc (.cells #[] 61)) w.heap.size [.int .i64 (n1:Nat),str t1,str x1] 61 from aV.out.alloc _);have OC:=hid (OA.out.alloc (.cells (bG (n1,t1,x1)).toArray 61));have HC:=hid (HA.out.alloc HA.out.size (.cells (bG (n1,t1,x1)).toArray 61));have UC:=hid (UA.out.alloc (.cells (bG (n1,t1,x1)).toArray 61));have TC:=hid (show aj ((w6.drew.alloc (.cells #[] 61)).alloc (.cells (bG (n1,t1,x1)).toArray 61)) (w6.heap.size+1) (bG (n1,t1,x1)) 61 from Pk w6 _ _ _);have mK:=hid (aP.out.drew.alloc gM (.cells (bG (n1,t1,x1)).toArray 61));have OE:=hid (show ((w6.drew.alloc (.cells (bG (n1,t1,x1)).toArray 61)).alloc (.cells #[] 61)).ownsRow wb.heap.size 61 3 (.slice (some ⟨w6.heap.size+1,0,none⟩) 0 0) 0 [] from Ph w6 wb.heap.size _ gM);have HE:=hid (mK.out.alloc mK.out.size (.cells #[] 61));have UE:=hid (show aj ((w6.drew.alloc (.cells (bG (n1,t1,x1)).toArray 61)).alloc (.cells #[] 61)) w.heap.size [.int .i64 (n1:Nat),str t1,str x1] 61 from (aV.out.alloc _).alloc _);have TE:=hid (show aj ((w6.drew.alloc (.cells (bG (n1,t1,x1)).toArray 61)).alloc (.cells #[] 61)) w6.heap.size (bG (n1,t1,x1)) 61 from (Pj w6 _).alloc _);have d0:=aV.out.cell (i:=0) rfl;have d1:=aV.out.cell (i:=1) rfl;have d2:=aV.out.cell (i:=2) rfl;(go_upto_region 6 with fail);go_region_law (first
         | (refine dM (by rfl) (.tmp 34) (.tmp 37) 62 (by rfl) wb.heap.size 61 iS _ 3 40 Tryz.underlying62 hi0 bH bI bJ rfl (by decide) (.slice (some ⟨w6.heap.size,0,none⟩) 0 0) 0 [] (by rfl) OA.out (some ⟨bl,off,none⟩) i cap (bS (L.take i)) (by rfl) jH.out jI.out (F1.out _ HA.out) (nu _) ?b1 ?b2 ?b3 ?_
            case b1=>(unfold maxLen;omega)
            case b2=>omega
            case b3=>exact HA.out.size
            intro v1 w1 g1 g2 g3
            have G1:=hid g1
            have bF:=hid (HA.out.grown g2 HA.out.size (fun k hk=>(OA.out.lt k hk).1))
            have aR:=hid (nH UA.out g2 (fun e=>by have:=(OA.out.lt _ e).1;omega))
            have k0:=aR.out.cell (i:=0) rfl
            have k1:=aR.out.cell (i:=1) rfl
            have k2:=aR.out.cell (i:=2) rfl
            clear g1 g2 g3)
         | (refine dM (by rfl) (.tmp 34) (.tmp 37) 62 (by rfl) wb.heap.size 61 iS _ 3 40 Tryz.underlying62 hi0 bH bI bJ rfl (by decide) (.slice (some ⟨w6.heap.size,0,none⟩) 0 0) 0 [] (by rfl) OC.out (some ⟨bl,off,none⟩) i cap (bS (L.take i)) (by rfl) jH.out jI.out (F1.out _ HC.out) (nu _) ?b1 ?b2 ?b3 ?_
            case b1=>(unfold maxLen;omega)
            case b2=>omega
            case b3=>exact HC.out.size
            intro v1 w1 g1 g2 g3
            have G1:=hid g1
            have bF:=hid (HC.out.grown g2 HC.out.size (fun k hk=>(OC.out.lt k hk).1))
            have aR:=hid (nH UC.out g2 (fun e=>by have:=(OC.out.lt _ e).1;omega))
            have rU:=hid (nH TC.out g2 (fun e=>by simp [Value.ownBlock] at e))
            have k0:=aR.out.cell (i:=0) rfl
            have k1:=aR.out.cell (i:=1) rfl
            have k2:=aR.out.cell (i:=2) rfl
            clear g1 g2 g3)
         | (refine dM (by rfl) (.tmp 34) (.tmp 37) 62 (by rfl) wb.heap.size 61 iS _ 3 40 Tryz.underlying62 hi0 bH bI bJ rfl (by decide) (.slice (some ⟨w6.heap.size+1,0,none⟩) 0 0) 0 [] (by rfl) OE.out (some ⟨bl,off,none⟩) i cap (bS (L.take i)) (by rfl) jH.out jI.out (F1.out _ HE.out) (nu _) ?b1 ?b2 ?b3 ?_
            case b1=>(unfold maxLen;omega)
            case b2=>omega
            case b3=>exact HE.out.size
            intro v1 w1 g1 g2 g3
            have G1:=hid g1
            have bF:=hid (HE.out.grown g2 HE.out.size (fun k hk=>(OE.out.lt k hk).1))
            have aR:=hid (nH UE.out g2 (fun e=>by have:=(OE.out.lt _ e).1;omega))
            have ig:=hid (nH TE.out g2 (fun e=>by simp [Value.ownBlock] at e))
            have k0:=aR.out.cell (i:=0) rfl
            have k1:=aR.out.cell (i:=1) rfl
            have k2:=aR.out.cell (i:=2) rfl
            clear g1 g2 g3)
         | (refine dM (by rfl) (.tmp 38) (.tmp 40) 62 (by rfl) wb.heap.size 61 iS _ 3 40 Tryz.underlying62 hi0 bH bI bJ rfl (by decide) v1 (0+i) ([]++(bS (L.take i))) (by rfl) (G1.out.alloc _) (some ⟨w1.heap.size,0,none⟩) 1 1 (bG (n1,t1,x1)) (by rfl) (fun h=>by cases h) rfl (xQ w1 (bG (n1,t1,x1)) 61) (pR (n1,t1,x1)) ?b1 ?b2 ?b3 ?_
            case b1=>(unfold maxLen;omega)
            case b2=>omega
            case b3=>exact (bF.out.alloc bF.out.size _).size
            intro v2 w2 g1 g2 g3
            have G2:=hid g1
            have eP:=hid ((bF.out.alloc bF.out.size _).grown g2 (bF.out.alloc bF.out.size _).size (fun k hk=>(G1.out.lt k hk).1))
            clear g1 g2 g3)
         | (refine dM (by rfl) (.tmp 38) (.tmp 40) 62 (by rfl) wb.heap.size 61 iS _ 3 40 Tryz.underlying62 hi0 bH bI bJ rfl (by decide) v1 (0+i) ([]++(bS (L.take i))) (by rfl) G1.out (some ⟨w6.heap.size+1,0,none⟩) 1 1 (bG (n1,t1,x1)) (by rfl) (fun h=>by cases h) rfl (Bt rU.out) (pR (n1,t1,x1)) ?b1 ?b2 ?b3 ?_
            case b1=>(unfold maxLen;omega)
            case b2=>omega
            case b3=>exact bF.out.size
            intro v2 w2 g1 g2 g3
            have G2:=hid g1
            have eP:=hid (bF.out.grown g2 bF.out.size (fun k hk=>(G1.out.lt k hk).1))
            clear g1 g2 g3)
         | (refine dM (by rfl) (.tmp 38) (.tmp 40) 62 (by rfl) wb.heap.size 61 iS _ 3 40 Tryz.underlying62 hi0 bH bI bJ rfl (by decide) v1 (0+i) ([]++(bS (L.take i))) (by rfl) G1.out (some ⟨w6.heap.size,0,none⟩) 1 1 (bG (n1,t1,x1)) (by rfl) (fun h=>by cases h) rfl (Bt ig.out) (pR (n1,t1,x1)) ?b1 ?b2 ?b3 ?_
            case b1=>(unfold maxLen;omega)
            case b2=>omega
            case b3=>exact bF.out.size
            intro v2 w2 g1 g2 g3
            have G2:=hid g1
            have eP:=hid (bF.out.grown g2 bF.out.size (fun k hk=>(G1.out.lt k hk).1))
            clear g1 g2 g3)
         | (refine dM (by rfl) (.tmp 41) (.tmp 44) 62 (by rfl) wb.heap.size 61 iS _ 3 40 Tryz.underlying62 hi0 bH bI bJ rfl (by decide) v2 (0+i+1) (([]++(bS (L.take i)))++(bG (n1,t1,x1))) (by rfl) G2.out (some ⟨bl,off+i*3,none⟩) (n-i) (cap-i) (bS (L.drop i)) (by rfl) rQ.out rR.out (F2.out _ eP.out) (nu _) ?b1 ?b2 ?b3 ?_
            case b1=>(unfold maxLen;omega)
            case b2=>omega
            case b3=>exact eP.out.size
            intro v3 w3 g1 g2 g3
            have G3:=hid g1
            have rV:=hid (eP.out.grown g2 eP.out.size (fun k hk=>(G2.out.lt k hk).1))
            clear g1 g2 g3)
         | fail)
        all_goals
         have kQ:=hid (Pn (L:=L) (t:=(n1,t1,x1)) (i:=i) G3.out rT.out)
         go_wp2
         go_ret
         exact ⟨v3,rfl,by rw [ku.out];exact kQ.out.it,(fun B hB _=>by rw [ku.out];exact kQ.out.mono (Nat.le_trans hB HB1.out.size)),HB1.out.trans (rV.out.mono HB1.out.size)⟩
  · obtain rfl:i=n:=(by omega);have hltz:¬ (i:Int)<(i:Int):=(by omega);have Gq:decide ((i:Int)<(i:Int))=false:=decide_eq_false hltz;have ku:=hid (show So.put So.cT L (n1,t1,x1)=L.take i++(n1,t1,x1)::L.drop i from Pg (by rw [←HN.out];exact hin) fD.out (fun h=>by have:=HN.out;omega));(go_upto_region 2 with fail);refine fA wr.heap.size (by kernel_rfl) (by kernel_rfl) ?_;(repeat (go_big_quiet_step (first | fail)));refine wpQuiet_nil ?_;rintro wq ⟨q,hq⟩;have f_:=hid (show Below wb.heap.size wb wq by rw [hq];exact aA HB.out q.low);clear hq q;(go_upto_region 4 with fail);refine fA wq.heap.size (by kernel_rfl) (by kernel_rfl) ?_;(repeat (go_big_quiet_step (first | fail)));refine wpQuiet_nil ?_;rintro wq2 ⟨q,hq⟩;have aP:=hid (show Below wb.heap.size wb wq2 by rw [hq];exact aA f_.out q.low);have aV:=hid (show aj wq2 w.heap.size [.int .i64 (n1:Nat),str t1,str x1] 61 from gZ.out.keep aP.out);have hzb:=gZ.out.lt;clear hq q;obtain ⟨w6,dh⟩:∃ w6,w6=wq2:=⟨_,rfl⟩;rw [←dh] at aP aV ⊢;clear dh;have hde:L.drop i=[]:=(by rw [List.drop_eq_nil_of_le (by rw [←HN.out];exact Nat.le_refl _)]);obtain ⟨fa,fc,ba,bc,hS1,hS2,Gu,hB0⟩:∃ (fa:Option Addr) (fc:Nat) (ba:Option Addr) (bc:Nat),(∀ W,(Instr.sliceAt 62 (.slice a i cap) none (some (.int .i64 (i:Int))) none).run Tryz.prog W=.ok (.slice fa i fc) W)∧(∀ W,(Instr.sliceAt 62 (.slice a i cap) (some (.int .i64 (i:Int))) none none).run Tryz.prog W=.ok (.slice ba 0 bc) W)∧bC wb (.slice fa i fc) (L.take i)∧bC wb (.slice ba 0 bc) (L.drop i):=(by have hA1:(i:Int)≤(cap:Int):=(by omega);have oK:∀ x c,c≤maxLen→(x=none→c=0)→bC wb (.slice x 0 c) (L.drop i):=fun x c h1 h2=>(by rw [hde];exact ⟨_,_,rfl,Nat.zero_le _,h1,h2,.inl rfl⟩);have lN:bC wb (.slice a i cap) (L.take i):=(by exact (HV.out.front i (by omega)).keep HB1.out);have hz0:(0:Nat)≤maxLen:=(by unfold maxLen;omega);rcases Nat.eq_zero_or_pos i with oL | oL;{subst oL;rcases a with _ | ad;{obtain rfl:cap=0:=hc3 rfl;exact ⟨none,0,none,0,fun W=>by simp [go_sem],fun W=>by simp [go_sem],lN,oK _ _ hz0 (fun _=>rfl)⟩};{exact ⟨some ad,cap,some ad,cap,fun W=>by simp [go_sem],fun W=>by simp [go_sem],lN,oK _ _ (by omega) (fun h=>by cases h)⟩}};{obtain ⟨bl,off,rfl,hrow⟩:=HV.out.get (i:=0) (by first | (rw [List.length_map,←HN.out];exact oL) | (rw [←HN.out];exact oL));clear hrow;by_cases hck:cap=i;{subst hck;exact ⟨some ⟨bl,off,none⟩,cap,some ⟨bl,off,none⟩,0,fun W=>by simp [go_sem],fun W=>by simp [go_sem],lN,oK _ _ hz0 (fun h=>by cases h)⟩};{have Gv:¬ cap-i=0:=(by omega);exact ⟨some ⟨bl,off,none⟩,cap,some ⟨bl,off+i*3,none⟩,cap-i,fun W=>by simp [go_sem,hA1],fun W=>by simp [go_sem,hA1,hck,Gv],lN,oK _ _ (by omega) (fun h=>by cases h)⟩}});obtain ⟨v0,hv0⟩:∃ v0,v0=Value.slice a i cap:=⟨_,rfl⟩;rw [←hv0] at hS1 hS2 ⊢;clear hv0;have hA2:(i:Int)≤(cap:Int):=(by omega);have mJ:=hid Gu;have hlt1:(L.take i).length=i:=(by rw [List.length_take,←HN.out];omega);have jH:=hid (lQ mJ.out).2.1;have jI:=hid (show (bS (L.take i)).length=i*3 by rw [qb,hlt1]);have F1:=hid (fun W (hW:Below wb.heap.size wb W)=>(lQ (mJ.out.keep hW)).2.2);have h_:=hid hB0;have rQ:=hid (lQ h_.out).2.1;have rR:=hid (show (bS (L.drop i)).length=0*3 by rw [qb,←(lQ h_.out).1]);have F2:=hid (fun W (hW:Below wb.heap.size wb W)=>(lQ (h_.out.keep hW)).2.2);have rT:=hid (show 0+i+1+0=(L.take i++(n1,t1,x1)::L.drop i).length by have h:=(lQ h_.out).1;rw [List.length_append,List.length_cons,hlt1,←h] <;> omega);clear hlt1;obtain ⟨iS,hi0,bH,bI,bJ⟩:=AY;have gM:=aP.out.size;have Gt:=aV.out.lt;have OA:=hid (Gx w6.drew wb.heap.size gM);have HA:=hid (aP.out.drew.alloc gM (.cells #[] 61));have UA:=hid (show aj (w6.drew.alloc (.cells #[] 61)) w.heap.size [.int .i64 (n1:Nat),str t1,str x1] 61 from aV.out.alloc _);have OC:=hid (OA.out.alloc (.cells (bG (n1,t1,x1)).toArray 61));have HC:=hid (HA.out.alloc HA.out.size (.cells (bG (n1,t1,x1)).toArray 61));have UC:=hid (UA.out.alloc (.cells (bG (n1,t1,x1)).toArray 61));have TC:=hid (show aj ((w6.drew.alloc (.cells #[] 61)).alloc (.cells (bG (n1,t1,x1)).toArray 61)) (w6.heap.size+1) (bG (n1,t1,x1)) 61 from Pk w6 _ _ _);have mK:=hid (aP.out.drew.alloc gM (.cells (bG (n1,t1,x1)).toArray 61));have OE:=hid (show ((w6.drew.alloc (.cells (bG (n1,t1,x1)).toArray 61)).alloc (.cells #[] 61)).ownsRow wb.heap.size 61 3 (.slice (some ⟨w6.heap.size+1,0,none⟩) 0 0) 0 [] from Ph w6 wb.heap.size _ gM);have HE:=hid (mK.out.alloc mK.out.size (.cells #[] 61));have UE:=hid (show aj ((w6.drew.alloc (.cells (bG (n1,t1,x1)).toArray 61)).alloc (.cells #[] 61)) w.heap.size [.int .i64 (n1:Nat),str t1,str x1] 61 from (aV.out.alloc _).alloc _);have TE:=hid (show aj ((w6.drew.alloc (.cells (bG (n1,t1,x1)).toArray 61)).alloc (.cells #[] 61)) w6.heap.size (bG (n1,t1,x1)) 61 from (Pj w6 _).alloc _);have d0:=aV.out.cell (i:=0) rfl;have d1:=aV.out.cell (i:=1) rfl;have d2:=aV.out.cell (i:=2) rfl;(go_upto_region 6 with fail);go_region_law (first
     | (refine dM (by rfl) (.tmp 34) (.tmp 37) 62 (by rfl) wb.heap.size 61 iS _ 3 40 Tryz.underlying62 hi0 bH bI bJ rfl (by decide) (.slice (some ⟨w6.heap.size,0,none⟩) 0 0) 0 [] (by rfl) OA.out fa i fc (bS (L.take i)) (by rfl) jH.out jI.out (F1.out _ HA.out) (nu _) ?b1 ?b2 ?b3 ?_
        case b1=>(unfold maxLen;omega)
        case b2=>omega
        case b3=>exact HA.out.size
        intro v1 w1 g1 g2 g3
        have G1:=hid g1
        have bF:=hid (HA.out.grown g2 HA.out.size (fun k hk=>(OA.out.lt k hk).1))
        have aR:=hid (nH UA.out g2 (fun e=>by have:=(OA.out.lt _ e).1;omega))
        have k0:=aR.out.cell (i:=0) rfl
        have k1:=aR.out.cell (i:=1) rfl
        have k2:=aR.out.cell (i:=2) rfl
        clear g1 g2 g3)
     | (refine dM (by rfl) (.tmp 34) (.tmp 37) 62 (by rfl) wb.heap.size 61 iS _ 3 40 Tryz.underlying62 hi0 bH bI bJ rfl (by decide) (.slice (some ⟨w6.heap.size,0,none⟩) 0 0) 0 [] (by rfl) OC.out fa i fc (bS (L.take i)) (by rfl) jH.out jI.out (F1.out _ HC.out) (nu _) ?b1 ?b2 ?b3 ?_
        case b1=>(unfold maxLen;omega)
        case b2=>omega
        case b3=>exact HC.out.size
        intro v1 w1 g1 g2 g3
        have G1:=hid g1
        have bF:=hid (HC.out.grown g2 HC.out.size (fun k hk=>(OC.out.lt k hk).1))
        have aR:=hid (nH UC.out g2 (fun e=>by have:=(OC.out.lt _ e).1;omega))
        have rU:=hid (nH TC.out g2 (fun e=>by simp [Value.ownBlock] at e))
        have k0:=aR.out.cell (i:=0) rfl
        have k1:=aR.out.cell (i:=1) rfl
        have k2:=aR.out.cell (i:=2) rfl
        clear g1 g2 g3)
     | (refine dM (by rfl) (.tmp 34) (.tmp 37) 62 (by rfl) wb.heap.size 61 iS _ 3 40 Tryz.underlying62 hi0 bH bI bJ rfl (by decide) (.slice (some ⟨w6.heap.size+1,0,none⟩) 0 0) 0 [] (by rfl) OE.out fa i fc (bS (L.take i)) (by rfl) jH.out jI.out (F1.out _ HE.out) (nu _) ?b1 ?b2 ?b3 ?_
        case b1=>(unfold maxLen;omega)
        case b2=>omega
        case b3=>exact HE.out.size
        intro v1 w1 g1 g2 g3
        have G1:=hid g1
        have bF:=hid (HE.out.grown g2 HE.out.size (fun k hk=>(OE.out.lt k hk).1))
        have aR:=hid (nH UE.out g2 (fun e=>by have:=(OE.out.lt _ e).1;omega))
        have ig:=hid (nH TE.out g2 (fun e=>by simp [Value.ownBlock] at e))
        have k0:=aR.out.cell (i:=0) rfl
        have k1:=aR.out.cell (i:=1) rfl
        have k2:=aR.out.cell (i:=2) rfl
        clear g1 g2 g3)
     | (refine dM (by rfl) (.tmp 38) (.tmp 40) 62 (by rfl) wb.heap.size 61 iS _ 3 40 Tryz.underlying62 hi0 bH bI bJ rfl (by decide) v1 (0+i) ([]++(bS (L.take i))) (by rfl) (G1.out.alloc _) (some ⟨w1.heap.size,0,none⟩) 1 1 (bG (n1,t1,x1)) (by rfl) (fun h=>by cases h) rfl (xQ w1 (bG (n1,t1,x1)) 61) (pR (n1,t1,x1)) ?b1 ?b2 ?b3 ?_
        case b1=>(unfold maxLen;omega)
        case b2=>omega
        case b3=>exact (bF.out.alloc bF.out.size _).size
        intro v2 w2 g1 g2 g3
        have G2:=hid g1
        have eP:=hid ((bF.out.alloc bF.out.size _).grown g2 (bF.out.alloc bF.out.size _).size (fun k hk=>(G1.out.lt k hk).1))
        clear g1 g2 g3)
     | (refine dM (by rfl) (.tmp 38) (.tmp 40) 62 (by rfl) wb.heap.size 61 iS _ 3 40 Tryz.underlying62 hi0 bH bI bJ rfl (by decide) v1 (0+i) ([]++(bS (L.take i))) (by rfl) G1.out (some ⟨w6.heap.size+1,0,none⟩) 1 1 (bG (n1,t1,x1)) (by rfl) (fun h=>by cases h) rfl (Bt rU.out) (pR (n1,t1,x1)) ?b1 ?b2 ?b3 ?_
        case b1=>(unfold maxLen;omega)
        case b2=>omega
        case b3=>exact bF.out.size
        intro v2 w2 g1 g2 g3
        have G2:=hid g1
        have eP:=hid (bF.out.grown g2 bF.out.size (fun k hk=>(G1.out.lt k hk).1))
        clear g1 g2 g3)
     | (refine dM (by rfl) (.tmp 38) (.tmp 40) 62 (by rfl) wb.heap.size 61 iS _ 3 40 Tryz.underlying62 hi0 bH bI bJ rfl (by decide) v1 (0+i) ([]++(bS (L.take i))) (by rfl) G1.out (some ⟨w6.heap.size,0,none⟩) 1 1 (bG (n1,t1,x1)) (by rfl) (fun h=>by cases h) rfl (Bt ig.out) (pR (n1,t1,x1)) ?b1 ?b2 ?b3 ?_
        case b1=>(unfold maxLen;omega)
        case b2=>omega
        case b3=>exact bF.out.size
        intro v2 w2 g1 g2 g3
        have G2:=hid g1
        have eP:=hid (bF.out.grown g2 bF.out.size (fun k hk=>(G1.out.lt k hk).1))
        clear g1 g2 g3)
     | (refine dM (by rfl) (.tmp 41) (.tmp 44) 62 (by rfl) wb.heap.size 61 iS _ 3 40 Tryz.underlying62 hi0 bH bI bJ rfl (by decide) v2 (0+i+1) (([]++(bS (L.take i)))++(bG (n1,t1,x1))) (by rfl) G2.out ba 0 bc (bS (L.drop i)) (by rfl) rQ.out rR.out (F2.out _ eP.out) (nu _) ?b1 ?b2 ?b3 ?_
        case b1=>(unfold maxLen;omega)
        case b2=>omega
        case b3=>exact eP.out.size
        intro v3 w3 g1 g2 g3
        have G3:=hid g1
        have rV:=hid (eP.out.grown g2 eP.out.size (fun k hk=>(G2.out.lt k hk).1))
        clear g1 g2 g3)
     | fail)
    all_goals
     have kQ:=hid (Pn (L:=L) (t:=(n1,t1,x1)) (i:=i) G3.out rT.out)
     go_wp2
     go_ret
     exact ⟨v3,rfl,by rw [ku.out];exact kQ.out.it,(fun B hB _=>by rw [ku.out];exact kQ.out.mono (Nat.le_trans hB HB1.out.size)),HB1.out.trans (rV.out.mono HB1.out.size)⟩
end Go.Proofs.YtjaebndajhppgaaGreatDoor
