/-SoPut-/
import Derived.Test.YtjaebndajhppgaaGreatDoorMlHd1
import Derived.Test.YtjaebndajhppgaaGreatDoorMlGSo2
import Derived.Test.YtjaebndajhppgaaGreatDoorMlGTri
set_option linter.unusedVariables false
set_option linter.unusedSimpArgs false
set_option maxRecDepth 100000
set_option maxHeartbeats 8000000
namespace Go.Proofs.YtjaebndajhppgaaGreatDoor
open Go.Proofs.Tryz
open Go.ChangeShapes Go.WideShapes Go.ChangeAt Go.RowKit
theorem abn {w:World} {B:Nat} {v:Value} {l:List T3} (h:w.ownsRow B 61 3 v l.length (dG l)):bP w v l:=by have h0:=h;rcases h.2 with ⟨rfl,h2⟩ | ⟨g,cp,cur,rfl,hg,hh,hcp,hcm,_⟩;{rw [List.eq_nil_of_length_eq_zero h2];exact bP.nil w};{exact Ob h0 hcp hcm}
theorem abo {w:World} {B:Nat} {v:Value} {l:List T3} (h:w.ownsRow B 61 3 v l.length (dG l)):fB B w (fun W=>bP W v l):=
 fun w'' hw=>abn (KU h hw)
theorem abp (a b:T3) (w:World):(binOp .eql 61 (.agg #[.int .i64 (a.1:Nat),str a.2.1,str a.2.2]) (.agg #[.int .i64 (b.1:Nat),str b.2.1,str b.2.2])).run prog w=.ok (.bool (decide (a=b))) w:=EO a b w
theorem oM {W w1:World} {q:Nat} {A:List Value} {t:TypeId} {row:Option Nat} (h:ak W q A t) (hg:W.grownBy w1 row) (hne:row≠some q):ak w1 q A t:=by have hlt:=h.lt;unfold ak at h ⊢;rw [hg.block q hlt (fun e=>hne e.symm)];exact h
theorem Cb {W:World} {b:Nat} {A:List Value} {t:TypeId} (h:ak W b A t):∀ ad,some (⟨b,0,none⟩:Addr)=some ad→∀ j u,A[j]?=some u→W.cell? (ad.add j)=some u:=by intro ad had j u hu;cases had;rw [ji rfl,Nat.zero_add];exact h.cell hu
theorem Gb (W:World) (B:Nat) (hB:B≤W.heap.size):(W.alloc (.cells #[] 61)).ownsRow B 61 3 (.slice (some ⟨W.heap.size,0,none⟩) 0 0) 0 []:=by have h:=World.ownsRow_made W (#[]:Array Value) 0 ay (by unfold maxLen;omega) rfl (e:=61) (size:=3);obtain ⟨h1,h2⟩:=h;refine ⟨h1,?_⟩;rcases h2 with h2 | ⟨g,cap,cur,e,hg,rest⟩;{exact .inl h2};{exact .inr ⟨g,cap,cur,e,aj,rest⟩}
theorem Oj (W:World) (B:Nat) (o:Obj) (hB:B≤W.heap.size):((W.drew.alloc o).alloc (.cells #[] 61)).ownsRow B 61 3 (.slice (some ⟨W.heap.size+1,0,none⟩) 0 0) 0 []:=by have h:=Gb (W.drew.alloc o) B (by simp;show B≤W.heap.size+1;omega);have e:(W.drew.alloc o).heap.size=W.heap.size+1:=aC;rw [e] at h;exact h
theorem Ol (W:World) (A:List Value):ak (W.drew.alloc (.cells A.toArray 61)) W.heap.size A 61:=ak.new W.drew A 61
theorem Om (W:World) (o:Obj) (A:List Value) (t:TypeId):ak ((W.drew.alloc o).alloc (.cells A.toArray t)) (W.heap.size+1) A t:=by have h:=ak.new (W.drew.alloc o) A t;have e:(W.drew.alloc o).heap.size=W.heap.size+1:=aC;rw [e] at h;exact h
theorem Oo {L:List T3} {t:T3} {i N B:Nat} {w3:World} {v3:Value} (h:w3.ownsRow B 61 3 v3 N ((([]++dG (L.take i))++(bT t))++dG (L.drop i))) (hN:N=(L.take i++t::L.drop i).length):fB B w3 (fun W=>bP W v3 (L.take i++t::L.drop i)):=by subst hN;refine abo (B:=B) ?_;rw [Ni,show dG (t::L.drop i)=(bT t)++dG (L.drop i) from rfl,←List.append_assoc];exact h
theorem Gc (L:List T3) (hl:∀ t∈L,So.dJ t) (hn:L.length≤100000) (t:T3) (ht:So.dJ t) (w:World) (v:Value) (hv:bP w v L) :
  Calls prog 64 #[v,pQ t] w fun e w'=>∃ v',e=.returned v'∧bP w' v' (So.put So.cT L t)∧(∀ B,B≤w.heap.size→fB B w (fun W=>bP W v L)→fB B w' (fun W=>bP W v' (So.put So.cT L t)))∧Below w.heap.size w w':=by
 obtain ⟨a,cap,rfl,hc1,hc2,hc3⟩:=hv.open;have HV:=hid hv;have HL:=hid hl;obtain ⟨n,hn0⟩:=aA L.length;rw [←hn0] at HV hn hc1 ⊢;have HN:=hid hn0;have HT:=hid ht;have CP:=hid (fun (x:T3) (hx:So.dJ x) W=>abl x t hx ht W);obtain ⟨n1,t1,x1⟩:=t;have HB1:=hid (show Below w.heap.size w (w.alloc (.cells #[.int .i64 (n1:Nat),str t1,str x1] 61)) from (Below.refl _ _).alloc ay _);have iX:=hid ((show ak (w.alloc (.cells #[.int .i64 (n1:Nat),str t1,str x1] 61)) w.heap.size [.int .i64 (n1:Nat),str t1,str x1] 61 from ak.new' rfl rfl));clear hv hl ht hn0;go_enter func64,ntmps64;go_upto_region 1 with fail
 show Code.wp _ _ _ _ (w.alloc (.cells #[.int .i64 (n1:Nat),str t1,str x1] 61));obtain ⟨wb,hwb⟩:=aA (w.alloc (.cells #[.int .i64 (n1:Nat),str t1,str x1] 61));rw [←hwb] at HB1 iX ⊢;clear hwb;go_wp2;go_loopg [5] n (fun gk s5 wr=>∃ (i:Nat),s5=.int .i64 i∧i≤n∧n-i≤gk∧Hid (Below wb.heap.size wb wr)∧Hid (∀ j (h:j<L.length),j<i→So.cT L[j] (n1,t1,x1)<0))
 case atStart=>exact ⟨0,aN,Nat.zero_le _,Nat.le_refl _,Below.refl _ _,hid (fun j h h2=>absurd h2 (Nat.not_lt_zero _))⟩
 case round=>
  obtain ⟨i,rfl,hin,hg,HB,jL⟩:=hrel;have mo:=hid (iX.out.keep HB.out);by_cases hlt:i<n
  · have hltz:(i:Int)<(n:Int):=aj;have Gd:decide ((i:Int)<(n:Int))=true:=decide_eq_true hltz;have cZ:i<L.length:=(by rw [←HN.out];exact hlt);have Gf:=hid (HL.out L[i] (List.getElem_mem cZ));have jJ:=hid ((HV.out.keep HB1.out).keep HB.out);obtain ⟨bl,off,hab,hrow⟩:=jJ.out.get (i:=i) cZ;have HRW:=hid (hrow i cZ);have qg:=hid (fun W=>CP.out L[i] Gf.out W);obtain ⟨r,hr⟩:=aA (So.cT L[i] (n1,t1,x1));rw [←hr] at qg;have HR:=hid hr;obtain ⟨p,hp⟩:=aA (L[i]);rw [←hp] at HRW qg;have jK:=hid hp;clear hp hr hrow;obtain ⟨m1,u1,y1⟩:=p;have lH:=hid hab;subst hab;have qh:Hid (∀ W,Calls prog 31 #[bM (m1:Nat) u1 y1,bM (n1:Nat) t1 x1] W fun e w'=>e=.returned (.int .i64 r)∧Below W.heap.size W w'):=qg;clear qg;have c0:=HRW.out 0 aj;have c1:=HRW.out 1 aj;have c2:=HRW.out 2 aj;simp only [bT,List.getElem?_cons_zero,List.getElem?_cons_succ,Nat.add_zero] at c0 c1 c2;have k0:=fun p:Later wr.heap.size wr=>p.keep c0;have k1:=fun p:Later wr.heap.size wr=>p.keep c1;have k2:=fun p:Later wr.heap.size wr=>p.keep c2;have d0:=mo.out.cell (i:=0) rfl;have d1:=mo.out.cell (i:=1) rfl;have d2:=mo.out.cell (i:=2) rfl;have j0:=fun p:Later wr.heap.size wr=>p.keep d0;have j1:=fun p:Later wr.heap.size wr=>p.keep d1;have j2:=fun p:Later wr.heap.size wr=>p.keep d2;by_cases hneg:r<0
    · have dn:decide (r<0)=true:=decide_eq_true hneg;(go_upto_region 2 with fail);refine gM wr.heap.size aD aD ?_;(repeat (go_big_quiet_step (first | (go_at_call 31;with_reducible exact Later.call ay (qh.out _)))));refine wpQuiet_nil ?_;rintro wq ⟨q,hq⟩;have ig:=hid (show Below wb.heap.size wb wq by rw [hq];exact aG HB.out q.low);clear hq q k0 k1 k2 j0 j1 j2;go_wp2;go_roundg (n-(i+1))
      (case measure=>omega);case rel=>exact ⟨i+1,aN,aj,aj,ig.out,by
       show ∀ _,_;intro j h hj;rcases Nat.lt_or_ge j i with h2 | h2;{exact jL.out j h h2}
       · obtain rfl:j=i:=aj;rw [←HR.out];exact hneg⟩
    · have dn:decide (r<0)=false:=decide_eq_false hneg;(go_upto_region 2 with fail);refine gM wr.heap.size aD aD ?_;(repeat (go_big_quiet_step (first | (go_at_call 31;with_reducible exact Later.call ay (qh.out _)))));refine wpQuiet_nil ?_;clear k0 k1 k2 j0 j1 j2;rintro wq ⟨q,hq⟩;have ig:=hid (show Below wb.heap.size wb wq by rw [hq];exact aG HB.out q.low);have dH:=hid (show Below wr.heap.size wr wq by rw [hq];exact q.low);clear hq q;have E0:=abp (m1,u1,y1) (n1,t1,x1);simp only at E0;by_cases hz0:((m1,u1,y1):T3)=(n1,t1,x1);{have E4:=fun W=>(E0 W).trans (by rw [decide_eq_true hz0]);clear E0;have lJ:=hid (show So.put So.cT L (n1,t1,x1)=L from abk cZ jL.out (jK.out.symm.trans hz0));(go_upto_region 4 with fail);have k0:=fun p:Later wq.heap.size wq=>p.keep (aB dH.out c0);have k1:=fun p:Later wq.heap.size wq=>p.keep (aB dH.out c1);have k2:=fun p:Later wq.heap.size wq=>p.keep (aB dH.out c2);have j0:=fun p:Later wq.heap.size wq=>p.keep (aB dH.out d0);have j1:=fun p:Later wq.heap.size wq=>p.keep (aB dH.out d1);have j2:=fun p:Later wq.heap.size wq=>p.keep (aB dH.out d2);refine gM wq.heap.size aD aD ?_;(repeat (go_big_quiet_step (first | (go_at_call 31;with_reducible exact Later.call ay (qh.out _)))));refine wpQuiet_nil ?_;rintro wq2 ⟨q,hq⟩;clear k0 k1 k2 j0 j1 j2 c0 c1 c2 d0 d1 d2;have vw:=hid (show Below wb.heap.size wb wq2 by rw [hq];exact aG ig.out q.low);clear hq q;go_wp2;go_ret;exact ⟨_,rfl,by rw [lJ.out];exact (HV.out.keep HB1.out).keep vw.out,(fun B hB hF=>by rw [lJ.out];exact hF.keep (HB1.out.trans (vw.out.mono HB1.out.size))),HB1.out.trans (vw.out.mono HB1.out.size)⟩}
      · have E4:=fun W=>(E0 W).trans (by rw [decide_eq_false hz0]);clear E0;have lJ:=hid (show So.put So.cT L (n1,t1,x1)=L.take i++(n1,t1,x1)::L.drop i from Oi (by rw [←HN.out];exact hin) jL.out (fun h=>⟨by rw [←HR.out];exact hneg,fun e=>hz0 (jK.out.trans e)⟩));clear hz0;(go_upto_region 4 with fail);have k0:=fun p:Later wq.heap.size wq=>p.keep (aB dH.out c0);have k1:=fun p:Later wq.heap.size wq=>p.keep (aB dH.out c1);have k2:=fun p:Later wq.heap.size wq=>p.keep (aB dH.out c2);have j0:=fun p:Later wq.heap.size wq=>p.keep (aB dH.out d0);have j1:=fun p:Later wq.heap.size wq=>p.keep (aB dH.out d1);have j2:=fun p:Later wq.heap.size wq=>p.keep (aB dH.out d2);refine gM wq.heap.size aD aD ?_;(repeat (go_big_quiet_step (first | (go_at_call 31;with_reducible exact Later.call ay (qh.out _)))));refine wpQuiet_nil ?_;rintro wq2 ⟨q,hq⟩;clear k0 k1 k2 j0 j1 j2 c0 c1 c2 d0 d1 d2;have aO:=hid (show Below wb.heap.size wb wq2 by rw [hq];exact aG ig.out q.low);have aJ:=hid (show ak wq2 w.heap.size [.int .i64 (n1:Nat),str t1,str x1] 61 from iX.out.keep aO.out);have hzb:=iX.out.lt;clear hq q;obtain ⟨w6,bV⟩:=aA wq2;rw [←bV] at aO aJ ⊢;clear bV;have hic:i<cap:=aj;have hA1:i≤cap:=aj;have abq:¬ cap=i:=aj;have hA2:(i:Int)≤(cap:Int):=aj;have hA3:(n:Int)≤(cap:Int):=aj;have hA4:(i:Int)≤(n:Int):=aj;have nH:=hid ((HV.out.front i aj).keep HB1.out);have nW:=hid (show bP wb (.slice (some ⟨bl,off,none⟩) i cap) (L.take i) from nH.out);have hlt1:(L.take i).length=i:=(by rw [List.length_take,←HN.out];omega);have kP:=hid (ni nW.out).2.1;have kQ:=hid (show (dG (L.take i)).length=i*3 by rw [qU,hlt1]);have F1:=hid (fun W (hW:Below wb.heap.size wb W)=>(ni (nW.out.keep hW)).2.2);have iY:=hid (show bP wb (.slice (some ⟨bl,off+i*3,none⟩) (n-i) (cap-i)) (L.drop i) by exact (HV.out.back i aj).keep HB1.out);have sW:=hid (ni iY.out).2.1;have sZ:=hid (show (dG (L.drop i)).length=(n-i)*3 by rw [qU,←(ni iY.out).1]);have F2:=hid (fun W (hW:Below wb.heap.size wb W)=>(ni (iY.out.keep hW)).2.2);have tq:=hid (show 0+i+1+(n-i)=(L.take i++(n1,t1,x1)::L.drop i).length by have h:=(ni iY.out).1;rw [List.length_append,List.length_cons,hlt1,←h] <;> omega);clear hlt1;obtain ⟨iS,hi0,bY,bZ,b_⟩:=Bz;have iK:=aO.out.size;have Gg:=aJ.out.lt;have OA:=hid (Gb w6.drew wb.heap.size iK);have HA:=hid (aO.out.drew.alloc iK (.cells #[] 61));have UA:=hid (show ak (w6.drew.alloc (.cells #[] 61)) w.heap.size [.int .i64 (n1:Nat),str t1,str x1] 61 from aJ.out.alloc _);have OC:=hid (OA.out.alloc (.cells (bT (n1,t1,x1)).toArray 61));have HC:=hid (HA.out.alloc HA.out.size (.cells (bT (n1,t1,x1)).toArray 61));have UC:=hid (UA.out.alloc (.cells (bT (n1,t1,x1)).toArray 61));have TC:=hid (show ak ((w6.drew.alloc (.cells #[] 61)).alloc (.cells (bT (n1,t1,x1)).toArray 61)) (w6.heap.size+1) (bT (n1,t1,x1)) 61 from Om w6 _ _ _);have nX:=hid (aO.out.drew.alloc iK (.cells (bT (n1,t1,x1)).toArray 61));have OE:=hid (show ((w6.drew.alloc (.cells (bT (n1,t1,x1)).toArray 61)).alloc (.cells #[] 61)).ownsRow wb.heap.size 61 3 (.slice (some ⟨w6.heap.size+1,0,none⟩) 0 0) 0 [] from Oj w6 wb.heap.size _ iK);have HE:=hid (nX.out.alloc nX.out.size (.cells #[] 61));have UE:=hid (show ak ((w6.drew.alloc (.cells (bT (n1,t1,x1)).toArray 61)).alloc (.cells #[] 61)) w.heap.size [.int .i64 (n1:Nat),str t1,str x1] 61 from (aJ.out.alloc _).alloc _);have TE:=hid (show ak ((w6.drew.alloc (.cells (bT (n1,t1,x1)).toArray 61)).alloc (.cells #[] 61)) w6.heap.size (bT (n1,t1,x1)) 61 from (Ol w6 _).alloc _);have d0:=aJ.out.cell (i:=0) rfl;have d1:=aJ.out.cell (i:=1) rfl;have d2:=aJ.out.cell (i:=2) rfl;(go_upto_region 6 with fail);go_region_law (first
         | (refine fJ (by rfl) (.tmp 34) (.tmp 37) 62 (by rfl) wb.heap.size 61 iS _ 3 40 underlying62 hi0 bY bZ b_ rfl aH (.slice (some ⟨w6.heap.size,0,none⟩) 0 0) 0 [] (by rfl) OA.out (some ⟨bl,off,none⟩) i cap (dG (L.take i)) (by rfl) kP.out kQ.out (F1.out _ HA.out) (oJ _) ?b1 ?b2 ?b3 ?_
            case b1=>(unfold maxLen;omega)
            case b2=>omega
            case b3=>exact HA.out.size
            intro v1 w1 g1 g2 g3
            have G1:=hid g1
            have bQ:=hid (HA.out.grown g2 HA.out.size (fun k hk=>(OA.out.lt k hk).1))
            have bD:=hid (oM UA.out g2 (fun e=>by have:=(OA.out.lt _ e).1;omega))
            have k0:=bD.out.cell (i:=0) rfl
            have k1:=bD.out.cell (i:=1) rfl
            have k2:=bD.out.cell (i:=2) rfl
            clear g1 g2 g3)
         | (refine fJ (by rfl) (.tmp 34) (.tmp 37) 62 (by rfl) wb.heap.size 61 iS _ 3 40 underlying62 hi0 bY bZ b_ rfl aH (.slice (some ⟨w6.heap.size,0,none⟩) 0 0) 0 [] (by rfl) OC.out (some ⟨bl,off,none⟩) i cap (dG (L.take i)) (by rfl) kP.out kQ.out (F1.out _ HC.out) (oJ _) ?b1 ?b2 ?b3 ?_
            case b1=>(unfold maxLen;omega)
            case b2=>omega
            case b3=>exact HC.out.size
            intro v1 w1 g1 g2 g3
            have G1:=hid g1
            have bQ:=hid (HC.out.grown g2 HC.out.size (fun k hk=>(OC.out.lt k hk).1))
            have bD:=hid (oM UC.out g2 (fun e=>by have:=(OC.out.lt _ e).1;omega))
            have tC:=hid (oM TC.out g2 (fun e=>by simp [Value.ownBlock] at e))
            have k0:=bD.out.cell (i:=0) rfl
            have k1:=bD.out.cell (i:=1) rfl
            have k2:=bD.out.cell (i:=2) rfl
            clear g1 g2 g3)
         | (refine fJ (by rfl) (.tmp 34) (.tmp 37) 62 (by rfl) wb.heap.size 61 iS _ 3 40 underlying62 hi0 bY bZ b_ rfl aH (.slice (some ⟨w6.heap.size+1,0,none⟩) 0 0) 0 [] (by rfl) OE.out (some ⟨bl,off,none⟩) i cap (dG (L.take i)) (by rfl) kP.out kQ.out (F1.out _ HE.out) (oJ _) ?b1 ?b2 ?b3 ?_
            case b1=>(unfold maxLen;omega)
            case b2=>omega
            case b3=>exact HE.out.size
            intro v1 w1 g1 g2 g3
            have G1:=hid g1
            have bQ:=hid (HE.out.grown g2 HE.out.size (fun k hk=>(OE.out.lt k hk).1))
            have bD:=hid (oM UE.out g2 (fun e=>by have:=(OE.out.lt _ e).1;omega))
            have iZ:=hid (oM TE.out g2 (fun e=>by simp [Value.ownBlock] at e))
            have k0:=bD.out.cell (i:=0) rfl
            have k1:=bD.out.cell (i:=1) rfl
            have k2:=bD.out.cell (i:=2) rfl
            clear g1 g2 g3)
         | (refine fJ (by rfl) (.tmp 38) (.tmp 40) 62 (by rfl) wb.heap.size 61 iS _ 3 40 underlying62 hi0 bY bZ b_ rfl aH v1 (0+i) ([]++(dG (L.take i))) (by rfl) (G1.out.alloc _) (some ⟨w1.heap.size,0,none⟩) 1 1 (bT (n1,t1,x1)) (by rfl) (fun h=>by cases h) rfl (yt w1 (bT (n1,t1,x1)) 61) (qL (n1,t1,x1)) ?b1 ?b2 ?b3 ?_
            case b1=>(unfold maxLen;omega)
            case b2=>omega
            case b3=>exact (bQ.out.alloc bQ.out.size _).size
            intro v2 w2 g1 g2 g3
            have G2:=hid g1
            have gy:=hid ((bQ.out.alloc bQ.out.size _).grown g2 (bQ.out.alloc bQ.out.size _).size (fun k hk=>(G1.out.lt k hk).1))
            clear g1 g2 g3)
         | (refine fJ (by rfl) (.tmp 38) (.tmp 40) 62 (by rfl) wb.heap.size 61 iS _ 3 40 underlying62 hi0 bY bZ b_ rfl aH v1 (0+i) ([]++(dG (L.take i))) (by rfl) G1.out (some ⟨w6.heap.size+1,0,none⟩) 1 1 (bT (n1,t1,x1)) (by rfl) (fun h=>by cases h) rfl (Cb tC.out) (qL (n1,t1,x1)) ?b1 ?b2 ?b3 ?_
            case b1=>(unfold maxLen;omega)
            case b2=>omega
            case b3=>exact bQ.out.size
            intro v2 w2 g1 g2 g3
            have G2:=hid g1
            have gy:=hid (bQ.out.grown g2 bQ.out.size (fun k hk=>(G1.out.lt k hk).1))
            clear g1 g2 g3)
         | (refine fJ (by rfl) (.tmp 38) (.tmp 40) 62 (by rfl) wb.heap.size 61 iS _ 3 40 underlying62 hi0 bY bZ b_ rfl aH v1 (0+i) ([]++(dG (L.take i))) (by rfl) G1.out (some ⟨w6.heap.size,0,none⟩) 1 1 (bT (n1,t1,x1)) (by rfl) (fun h=>by cases h) rfl (Cb iZ.out) (qL (n1,t1,x1)) ?b1 ?b2 ?b3 ?_
            case b1=>(unfold maxLen;omega)
            case b2=>omega
            case b3=>exact bQ.out.size
            intro v2 w2 g1 g2 g3
            have G2:=hid g1
            have gy:=hid (bQ.out.grown g2 bQ.out.size (fun k hk=>(G1.out.lt k hk).1))
            clear g1 g2 g3)
         | (refine fJ (by rfl) (.tmp 41) (.tmp 44) 62 (by rfl) wb.heap.size 61 iS _ 3 40 underlying62 hi0 bY bZ b_ rfl aH v2 (0+i+1) (([]++(dG (L.take i)))++(bT (n1,t1,x1))) (by rfl) G2.out (some ⟨bl,off+i*3,none⟩) (n-i) (cap-i) (dG (L.drop i)) (by rfl) sW.out sZ.out (F2.out _ gy.out) (oJ _) ?b1 ?b2 ?b3 ?_
            case b1=>(unfold maxLen;omega)
            case b2=>omega
            case b3=>exact gy.out.size
            intro v3 w3 g1 g2 g3
            have G3:=hid g1
            have tF:=hid (gy.out.grown g2 gy.out.size (fun k hk=>(G2.out.lt k hk).1))
            clear g1 g2 g3)
         | fail)
        all_goals
         have mq:=hid (Oo (L:=L) (t:=(n1,t1,x1)) (i:=i) G3.out tq.out)
         go_wp2
         go_ret
         exact ⟨v3,rfl,by rw [lJ.out];exact mq.out.it,(fun B hB _=>by rw [lJ.out];exact mq.out.mono (Nat.le_trans hB HB1.out.size)),HB1.out.trans (tF.out.mono HB1.out.size)⟩
  · obtain rfl:i=n:=aj;have hltz:¬ (i:Int)<(i:Int):=aj;have Gd:decide ((i:Int)<(i:Int))=false:=decide_eq_false hltz;have lJ:=hid (show So.put So.cT L (n1,t1,x1)=L.take i++(n1,t1,x1)::L.drop i from Oi (by rw [←HN.out];exact hin) jL.out (fun h=>by have:=HN.out;omega));(go_upto_region 2 with fail);refine gM wr.heap.size aD aD ?_;(repeat (go_big_quiet_step (first | fail)));refine wpQuiet_nil ?_;rintro wq ⟨q,hq⟩;have ig:=hid (show Below wb.heap.size wb wq by rw [hq];exact aG HB.out q.low);clear hq q;(go_upto_region 4 with fail);refine gM wq.heap.size aD aD ?_;(repeat (go_big_quiet_step (first | fail)));refine wpQuiet_nil ?_;rintro wq2 ⟨q,hq⟩;have aO:=hid (show Below wb.heap.size wb wq2 by rw [hq];exact aG ig.out q.low);have aJ:=hid (show ak wq2 w.heap.size [.int .i64 (n1:Nat),str t1,str x1] 61 from iX.out.keep aO.out);have hzb:=iX.out.lt;clear hq q;obtain ⟨w6,bV⟩:=aA wq2;rw [←bV] at aO aJ ⊢;clear bV;have hde:L.drop i=[]:=(by rw [List.drop_eq_nil_of_le (by rw [←HN.out];exact Nat.le_refl _)]);obtain ⟨fa,fc,ba,bc,hS1,hS2,Gh,hB0⟩:∃ (fa:Option Addr) (fc:Nat) (ba:Option Addr) (bc:Nat),(∀ W,(Instr.sliceAt 62 (.slice a i cap) none (some (.int .i64 (i:Int))) none).run prog W=.ok (.slice fa i fc) W)∧(∀ W,(Instr.sliceAt 62 (.slice a i cap) (some (.int .i64 (i:Int))) none none).run prog W=.ok (.slice ba 0 bc) W)∧bP wb (.slice fa i fc) (L.take i)∧bP wb (.slice ba 0 bc) (L.drop i):=(by have hA1:(i:Int)≤(cap:Int):=aj;have qj:∀ x c,c≤maxLen→(x=none→c=0)→bP wb (.slice x 0 c) (L.drop i):=fun x c h1 h2=>(by rw [hde];exact ⟨_,_,rfl,Nat.zero_le _,h1,h2,.inl rfl⟩);have ql:bP wb (.slice a i cap) (L.take i):=(by exact (HV.out.front i aj).keep HB1.out);have hz0:(0:Nat)≤maxLen:=(by unfold maxLen;omega);rcases Nat.eq_zero_or_pos i with qm | qm;{subst qm;rcases a with _ | ad;{obtain rfl:cap=0:=hc3 rfl;exact ⟨none,0,none,0,fun W=>by simp [go_sem],fun W=>by simp [go_sem],ql,qj _ _ hz0 (fun _=>rfl)⟩};{exact ⟨some ad,cap,some ad,cap,fun W=>by simp [go_sem],fun W=>by simp [go_sem],ql,qj _ _ aj (fun h=>by cases h)⟩}};{obtain ⟨bl,off,rfl,hrow⟩:=HV.out.get (i:=0) (by first | (rw [List.length_map,←HN.out];exact qm) | (rw [←HN.out];exact qm));clear hrow;by_cases hck:cap=i;{subst hck;exact ⟨some ⟨bl,off,none⟩,cap,some ⟨bl,off,none⟩,0,fun W=>by simp [go_sem],fun W=>by simp [go_sem],ql,qj _ _ hz0 (fun h=>by cases h)⟩};{have Gi:¬ cap-i=0:=aj;exact ⟨some ⟨bl,off,none⟩,cap,some ⟨bl,off+i*3,none⟩,cap-i,fun W=>by simp [go_sem,hA1],fun W=>by simp [go_sem,hA1,hck,Gi],ql,qj _ _ aj (fun h=>by cases h)⟩}});obtain ⟨v0,hv0⟩:=aA (Value.slice a i cap);rw [←hv0] at hS1 hS2 ⊢;clear hv0;have hA2:(i:Int)≤(cap:Int):=aj;have nW:=hid Gh;have hlt1:(L.take i).length=i:=(by rw [List.length_take,←HN.out];omega);have kP:=hid (ni nW.out).2.1;have kQ:=hid (show (dG (L.take i)).length=i*3 by rw [qU,hlt1]);have F1:=hid (fun W (hW:Below wb.heap.size wb W)=>(ni (nW.out.keep hW)).2.2);have iY:=hid hB0;have sW:=hid (ni iY.out).2.1;have sZ:=hid (show (dG (L.drop i)).length=0*3 by rw [qU,←(ni iY.out).1]);have F2:=hid (fun W (hW:Below wb.heap.size wb W)=>(ni (iY.out.keep hW)).2.2);have tq:=hid (show 0+i+1+0=(L.take i++(n1,t1,x1)::L.drop i).length by have h:=(ni iY.out).1;rw [List.length_append,List.length_cons,hlt1,←h] <;> omega);clear hlt1;obtain ⟨iS,hi0,bY,bZ,b_⟩:=Bz;have iK:=aO.out.size;have Gg:=aJ.out.lt;have OA:=hid (Gb w6.drew wb.heap.size iK);have HA:=hid (aO.out.drew.alloc iK (.cells #[] 61));have UA:=hid (show ak (w6.drew.alloc (.cells #[] 61)) w.heap.size [.int .i64 (n1:Nat),str t1,str x1] 61 from aJ.out.alloc _);have OC:=hid (OA.out.alloc (.cells (bT (n1,t1,x1)).toArray 61));have HC:=hid (HA.out.alloc HA.out.size (.cells (bT (n1,t1,x1)).toArray 61));have UC:=hid (UA.out.alloc (.cells (bT (n1,t1,x1)).toArray 61));have TC:=hid (show ak ((w6.drew.alloc (.cells #[] 61)).alloc (.cells (bT (n1,t1,x1)).toArray 61)) (w6.heap.size+1) (bT (n1,t1,x1)) 61 from Om w6 _ _ _);have nX:=hid (aO.out.drew.alloc iK (.cells (bT (n1,t1,x1)).toArray 61));have OE:=hid (show ((w6.drew.alloc (.cells (bT (n1,t1,x1)).toArray 61)).alloc (.cells #[] 61)).ownsRow wb.heap.size 61 3 (.slice (some ⟨w6.heap.size+1,0,none⟩) 0 0) 0 [] from Oj w6 wb.heap.size _ iK);have HE:=hid (nX.out.alloc nX.out.size (.cells #[] 61));have UE:=hid (show ak ((w6.drew.alloc (.cells (bT (n1,t1,x1)).toArray 61)).alloc (.cells #[] 61)) w.heap.size [.int .i64 (n1:Nat),str t1,str x1] 61 from (aJ.out.alloc _).alloc _);have TE:=hid (show ak ((w6.drew.alloc (.cells (bT (n1,t1,x1)).toArray 61)).alloc (.cells #[] 61)) w6.heap.size (bT (n1,t1,x1)) 61 from (Ol w6 _).alloc _);have d0:=aJ.out.cell (i:=0) rfl;have d1:=aJ.out.cell (i:=1) rfl;have d2:=aJ.out.cell (i:=2) rfl;(go_upto_region 6 with fail);go_region_law (first
     | (refine fJ (by rfl) (.tmp 34) (.tmp 37) 62 (by rfl) wb.heap.size 61 iS _ 3 40 underlying62 hi0 bY bZ b_ rfl aH (.slice (some ⟨w6.heap.size,0,none⟩) 0 0) 0 [] (by rfl) OA.out fa i fc (dG (L.take i)) (by rfl) kP.out kQ.out (F1.out _ HA.out) (oJ _) ?b1 ?b2 ?b3 ?_
        case b1=>(unfold maxLen;omega)
        case b2=>omega
        case b3=>exact HA.out.size
        intro v1 w1 g1 g2 g3
        have G1:=hid g1
        have bQ:=hid (HA.out.grown g2 HA.out.size (fun k hk=>(OA.out.lt k hk).1))
        have bD:=hid (oM UA.out g2 (fun e=>by have:=(OA.out.lt _ e).1;omega))
        have k0:=bD.out.cell (i:=0) rfl
        have k1:=bD.out.cell (i:=1) rfl
        have k2:=bD.out.cell (i:=2) rfl
        clear g1 g2 g3)
     | (refine fJ (by rfl) (.tmp 34) (.tmp 37) 62 (by rfl) wb.heap.size 61 iS _ 3 40 underlying62 hi0 bY bZ b_ rfl aH (.slice (some ⟨w6.heap.size,0,none⟩) 0 0) 0 [] (by rfl) OC.out fa i fc (dG (L.take i)) (by rfl) kP.out kQ.out (F1.out _ HC.out) (oJ _) ?b1 ?b2 ?b3 ?_
        case b1=>(unfold maxLen;omega)
        case b2=>omega
        case b3=>exact HC.out.size
        intro v1 w1 g1 g2 g3
        have G1:=hid g1
        have bQ:=hid (HC.out.grown g2 HC.out.size (fun k hk=>(OC.out.lt k hk).1))
        have bD:=hid (oM UC.out g2 (fun e=>by have:=(OC.out.lt _ e).1;omega))
        have tC:=hid (oM TC.out g2 (fun e=>by simp [Value.ownBlock] at e))
        have k0:=bD.out.cell (i:=0) rfl
        have k1:=bD.out.cell (i:=1) rfl
        have k2:=bD.out.cell (i:=2) rfl
        clear g1 g2 g3)
     | (refine fJ (by rfl) (.tmp 34) (.tmp 37) 62 (by rfl) wb.heap.size 61 iS _ 3 40 underlying62 hi0 bY bZ b_ rfl aH (.slice (some ⟨w6.heap.size+1,0,none⟩) 0 0) 0 [] (by rfl) OE.out fa i fc (dG (L.take i)) (by rfl) kP.out kQ.out (F1.out _ HE.out) (oJ _) ?b1 ?b2 ?b3 ?_
        case b1=>(unfold maxLen;omega)
        case b2=>omega
        case b3=>exact HE.out.size
        intro v1 w1 g1 g2 g3
        have G1:=hid g1
        have bQ:=hid (HE.out.grown g2 HE.out.size (fun k hk=>(OE.out.lt k hk).1))
        have bD:=hid (oM UE.out g2 (fun e=>by have:=(OE.out.lt _ e).1;omega))
        have iZ:=hid (oM TE.out g2 (fun e=>by simp [Value.ownBlock] at e))
        have k0:=bD.out.cell (i:=0) rfl
        have k1:=bD.out.cell (i:=1) rfl
        have k2:=bD.out.cell (i:=2) rfl
        clear g1 g2 g3)
     | (refine fJ (by rfl) (.tmp 38) (.tmp 40) 62 (by rfl) wb.heap.size 61 iS _ 3 40 underlying62 hi0 bY bZ b_ rfl aH v1 (0+i) ([]++(dG (L.take i))) (by rfl) (G1.out.alloc _) (some ⟨w1.heap.size,0,none⟩) 1 1 (bT (n1,t1,x1)) (by rfl) (fun h=>by cases h) rfl (yt w1 (bT (n1,t1,x1)) 61) (qL (n1,t1,x1)) ?b1 ?b2 ?b3 ?_
        case b1=>(unfold maxLen;omega)
        case b2=>omega
        case b3=>exact (bQ.out.alloc bQ.out.size _).size
        intro v2 w2 g1 g2 g3
        have G2:=hid g1
        have gy:=hid ((bQ.out.alloc bQ.out.size _).grown g2 (bQ.out.alloc bQ.out.size _).size (fun k hk=>(G1.out.lt k hk).1))
        clear g1 g2 g3)
     | (refine fJ (by rfl) (.tmp 38) (.tmp 40) 62 (by rfl) wb.heap.size 61 iS _ 3 40 underlying62 hi0 bY bZ b_ rfl aH v1 (0+i) ([]++(dG (L.take i))) (by rfl) G1.out (some ⟨w6.heap.size+1,0,none⟩) 1 1 (bT (n1,t1,x1)) (by rfl) (fun h=>by cases h) rfl (Cb tC.out) (qL (n1,t1,x1)) ?b1 ?b2 ?b3 ?_
        case b1=>(unfold maxLen;omega)
        case b2=>omega
        case b3=>exact bQ.out.size
        intro v2 w2 g1 g2 g3
        have G2:=hid g1
        have gy:=hid (bQ.out.grown g2 bQ.out.size (fun k hk=>(G1.out.lt k hk).1))
        clear g1 g2 g3)
     | (refine fJ (by rfl) (.tmp 38) (.tmp 40) 62 (by rfl) wb.heap.size 61 iS _ 3 40 underlying62 hi0 bY bZ b_ rfl aH v1 (0+i) ([]++(dG (L.take i))) (by rfl) G1.out (some ⟨w6.heap.size,0,none⟩) 1 1 (bT (n1,t1,x1)) (by rfl) (fun h=>by cases h) rfl (Cb iZ.out) (qL (n1,t1,x1)) ?b1 ?b2 ?b3 ?_
        case b1=>(unfold maxLen;omega)
        case b2=>omega
        case b3=>exact bQ.out.size
        intro v2 w2 g1 g2 g3
        have G2:=hid g1
        have gy:=hid (bQ.out.grown g2 bQ.out.size (fun k hk=>(G1.out.lt k hk).1))
        clear g1 g2 g3)
     | (refine fJ (by rfl) (.tmp 41) (.tmp 44) 62 (by rfl) wb.heap.size 61 iS _ 3 40 underlying62 hi0 bY bZ b_ rfl aH v2 (0+i+1) (([]++(dG (L.take i)))++(bT (n1,t1,x1))) (by rfl) G2.out ba 0 bc (dG (L.drop i)) (by rfl) sW.out sZ.out (F2.out _ gy.out) (oJ _) ?b1 ?b2 ?b3 ?_
        case b1=>(unfold maxLen;omega)
        case b2=>omega
        case b3=>exact gy.out.size
        intro v3 w3 g1 g2 g3
        have G3:=hid g1
        have tF:=hid (gy.out.grown g2 gy.out.size (fun k hk=>(G2.out.lt k hk).1))
        clear g1 g2 g3)
     | fail)
    all_goals
     have mq:=hid (Oo (L:=L) (t:=(n1,t1,x1)) (i:=i) G3.out tq.out)
     go_wp2
     go_ret
     exact ⟨v3,rfl,by rw [lJ.out];exact mq.out.it,(fun B hB _=>by rw [lJ.out];exact mq.out.mono (Nat.le_trans hB HB1.out.size)),HB1.out.trans (tF.out.mono HB1.out.size)⟩
end Go.Proofs.YtjaebndajhppgaaGreatDoor
