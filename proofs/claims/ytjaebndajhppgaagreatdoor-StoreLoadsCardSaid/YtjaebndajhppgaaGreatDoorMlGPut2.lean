/-GPut2-/
import Derived.Test.YtjaebndajhppgaaGreatDoorMlHd1
import Derived.Test.YtjaebndajhppgaaGreatDoorMlGSo2
set_option linter.unusedVariables false
set_option linter.unusedSimpArgs false
set_option maxRecDepth 100000
set_option maxHeartbeats 8000000
namespace Go.Proofs.YtjaebndajhppgaaGreatDoor
open Go.Proofs.Tryz
open Go.ChangeShapes Go.WideShapes Go.ChangeAt Go.RowKit
theorem oN {W w1:World} {q:Nat} {A:List Value} {t:TypeId} {row:Option Nat} (h:ak W q A t) (hg:W.grownBy w1 row) (hne:row≠some q):ak w1 q A t:=by have hlt:=h.lt;unfold ak at h ⊢;rw [hg.block q hlt (fun e=>hne e.symm)];exact h
theorem Cx {W:World} {b:Nat} {A:List Value} {t:TypeId} (h:ak W b A t):∀ ad,some (⟨b,0,none⟩:Addr)=some ad→∀ j u,A[j]?=some u→W.cell? (ad.add j)=some u:=by intro ad had j u hu;cases had;rw [ji rfl,Nat.zero_add];exact h.cell hu
theorem Hr (W:World) (B:Nat) (hB:B≤W.heap.size):(W.alloc (.cells #[] 67)).ownsRow B 67 9 (.slice (some ⟨W.heap.size,0,none⟩) 0 0) 0 []:=by have h:=World.ownsRow_made W (#[]:Array Value) 0 ay (by unfold maxLen;omega) rfl (e:=67) (size:=9);obtain ⟨h1,h2⟩:=h;refine ⟨h1,?_⟩;rcases h2 with h2 | ⟨g,cap,cur,e,hg,rest⟩;{exact .inl h2};{exact .inr ⟨g,cap,cur,e,aj,rest⟩}
theorem Qp (W:World) (B:Nat) (o:Obj) (hB:B≤W.heap.size):((W.drew.alloc o).alloc (.cells #[] 67)).ownsRow B 67 9 (.slice (some ⟨W.heap.size+1,0,none⟩) 0 0) 0 []:=by have h:=Hr (W.drew.alloc o) B (by simp;show B≤W.heap.size+1;omega);have e:(W.drew.alloc o).heap.size=W.heap.size+1:=aC;rw [e] at h;exact h
theorem Qq (W:World) (A:List Value):ak (W.drew.alloc (.cells A.toArray 67)) W.heap.size A 67:=ak.new W.drew A 67
theorem Qr (W:World) (o:Obj) (A:List Value) (t:TypeId):ak ((W.drew.alloc o).alloc (.cells A.toArray t)) (W.heap.size+1) A t:=by have h:=ak.new (W.drew.alloc o) A t;have e:(W.drew.alloc o).heap.size=W.heap.size+1:=aC;rw [e] at h;exact h
theorem Qs {L:List TR} {t:TR} {i N B:Nat} {w3:World} {v3:Value} (h:w3.ownsRow B 67 9 v3 N ((([]++cu (L.take i))++(bA t).cells)++cu (L.drop i))) (hN:N=(L.take i++t::L.drop i).length):bX w3 v3 ((L.take i++t::L.drop i).map bA):=by subst hN;refine BN (B:=B) ?_;rw [abj,show cu (t::L.drop i)=(bA t).cells++cu (L.drop i) from rfl,←List.append_assoc];exact h
theorem ac3 (L:List TR) (hl:∀ t∈L,Tm.bG t=true) (hn:L.length≤100000) (t:TR) (ht:Tm.bG t=true) (w:World) (v:Value) (hv:bX w v (L.map bA)) :
  Calls prog 66 #[v,o_ t] w fun e w'=>∃ v',e=.returned v'∧bX w' v' ((Tm.put L t).map bA)∧Below w.heap.size w w':=by
 obtain ⟨a,cap,rfl,hc1,hc2,hc3⟩:=hv.open;have HV:=hid hv;have HL:=hid hl;rw [List.length_map] at HV hc1 ⊢;obtain ⟨n,hn0⟩:=aA L.length;rw [←hn0] at HV hn hc1 ⊢;have HN:=hid hn0;have HT:=hid ht;have CP:=hid (fun (x:TR) (hx:Tm.bG x=true) W=>abg x t hx ht W);obtain ⟨⟨n1,t1,x1⟩,⟨n2,t2,x2⟩,n3,t3,x3⟩:=t;have HB1:=hid (show Below w.heap.size w (aU w n1 t1 x1 n2 t2 x2 n3 t3 x3) from (Below.refl _ _).alloc ay _);have iX:=hid (fT w n1 t1 x1 n2 t2 x2 n3 t3 x3);clear hv hl ht hn0;go_enter func66,ntmps66;go_upto_region 1 with fail
 show Code.wp _ _ _ _ (aU w n1 t1 x1 n2 t2 x2 n3 t3 x3);obtain ⟨wb,hwb⟩:=aA (aU w n1 t1 x1 n2 t2 x2 n3 t3 x3);rw [←hwb] at HB1 iX ⊢;clear hwb;go_wp2;go_loopg [5] n (fun gk s5 wr=>∃ (i:Nat),s5=.int .i64 i∧i≤n∧n-i≤gk∧Hid (Below wb.heap.size wb wr)∧Hid (∀ j (h:j<L.length),j<i→Tm.bO L[j] ((n1,t1,x1),(n2,t2,x2),n3,t3,x3)<0))
 case atStart=>exact ⟨0,aN,Nat.zero_le _,Nat.le_refl _,Below.refl _ _,hid (fun j h h2=>absurd h2 (Nat.not_lt_zero _))⟩
 case round=>
  obtain ⟨i,rfl,hin,hg,HB,jL⟩:=hrel;have mo:=hid (iX.out.keep HB.out);by_cases hlt:i<n
  · have hltz:(i:Int)<(n:Int):=aj;have Gd:decide ((i:Int)<(n:Int))=true:=decide_eq_true hltz;have cZ:i<L.length:=(by rw [←HN.out];exact hlt);have Gf:=hid (HL.out L[i] (List.getElem_mem cZ));have jJ:=hid ((HV.out.keep HB1.out).keep HB.out);obtain ⟨bl,off,hab,hrow⟩:=jJ.out.get (i:=i) (by rw [List.length_map];exact cZ);have HRW:=hid (hrow i (by rw [List.length_map];exact cZ));rw [List.getElem_map] at HRW;have qg:=hid (fun W=>CP.out L[i] Gf.out W);obtain ⟨r,hr⟩:=aA (Tm.bO L[i] ((n1,t1,x1),(n2,t2,x2),n3,t3,x3));rw [←hr] at qg;have HR:=hid hr;obtain ⟨p,hp⟩:=aA (L[i]);rw [←hp] at HRW qg;clear hp hr hrow;obtain ⟨⟨m1,u1,y1⟩,⟨m2,u2,y2⟩,m3,u3,y3⟩:=p;have lH:=hid hab;subst hab;have qh:Hid (∀ W,Calls prog 108 #[fD (m1:Nat) u1 y1 (m2:Nat) u2 y2 (m3:Nat) u3 y3,fD (n1:Nat) t1 x1 (n2:Nat) t2 x2 (n3:Nat) t3 x3] W fun e w'=>e=.returned (.int .i64 r)∧Below W.heap.size W w'):=qg;clear qg;have c0:=HRW.out 0 aj;have c1:=HRW.out 1 aj;have c2:=HRW.out 2 aj;have c3:=HRW.out 3 aj;have c4:=HRW.out 4 aj;have c5:=HRW.out 5 aj;have c6:=HRW.out 6 aj;have c7:=HRW.out 7 aj;have c8:=HRW.out 8 aj;simp only [bA,eT.cells,List.getElem?_cons_zero,List.getElem?_cons_succ,Nat.add_zero] at c0 c1 c2 c3 c4 c5 c6 c7 c8;have k0:=fun p:Later wr.heap.size wr=>p.keep c0;have k1:=fun p:Later wr.heap.size wr=>p.keep c1;have k2:=fun p:Later wr.heap.size wr=>p.keep c2;have k3:=fun p:Later wr.heap.size wr=>p.keep c3;have k4:=fun p:Later wr.heap.size wr=>p.keep c4;have k5:=fun p:Later wr.heap.size wr=>p.keep c5;have k6:=fun p:Later wr.heap.size wr=>p.keep c6;have k7:=fun p:Later wr.heap.size wr=>p.keep c7;have k8:=fun p:Later wr.heap.size wr=>p.keep c8;have d0:=mo.out.cell (i:=0) rfl;have d1:=mo.out.cell (i:=1) rfl;have d2:=mo.out.cell (i:=2) rfl;have d3:=mo.out.cell (i:=3) rfl;have d4:=mo.out.cell (i:=4) rfl;have d5:=mo.out.cell (i:=5) rfl;have d6:=mo.out.cell (i:=6) rfl;have d7:=mo.out.cell (i:=7) rfl;have d8:=mo.out.cell (i:=8) rfl;have j0:=fun p:Later wr.heap.size wr=>p.keep d0;have j1:=fun p:Later wr.heap.size wr=>p.keep d1;have j2:=fun p:Later wr.heap.size wr=>p.keep d2;have j3:=fun p:Later wr.heap.size wr=>p.keep d3;have j4:=fun p:Later wr.heap.size wr=>p.keep d4;have j5:=fun p:Later wr.heap.size wr=>p.keep d5;have j6:=fun p:Later wr.heap.size wr=>p.keep d6;have j7:=fun p:Later wr.heap.size wr=>p.keep d7;have j8:=fun p:Later wr.heap.size wr=>p.keep d8;by_cases hneg:r<0
    · have dn:decide (r<0)=true:=decide_eq_true hneg;(go_upto_region 2 with fail);refine gM wr.heap.size aD aD ?_;(repeat (go_big_quiet_step (first | (go_at_call 108;with_reducible exact Later.call ay (qh.out _)))));refine wpQuiet_nil ?_;rintro wq ⟨q,hq⟩;have ig:=hid (show Below wb.heap.size wb wq by rw [hq];exact aG HB.out q.low);clear hq q k0 k1 k2 k3 k4 k5 k6 k7 k8 j0 j1 j2 j3 j4 j5 j6 j7 j8;go_wp2;go_roundg (n-(i+1))
      (case measure=>omega);case rel=>exact ⟨i+1,aN,aj,aj,ig.out,by
       show ∀ _,_;intro j h hj;rcases Nat.lt_or_ge j i with h2 | h2;{exact jL.out j h h2}
       · obtain rfl:j=i:=aj;rw [←HR.out];exact hneg⟩
    · have dn:decide (r<0)=false:=decide_eq_false hneg;(go_upto_region 2 with fail);refine gM wr.heap.size aD aD ?_;(repeat (go_big_quiet_step (first | (go_at_call 108;with_reducible exact Later.call ay (qh.out _)))));refine wpQuiet_nil ?_;clear k0 k1 k2 k3 k4 k5 k6 k7 k8 j0 j1 j2 j3 j4 j5 j6 j7 j8;rintro wq ⟨q,hq⟩;have ig:=hid (show Below wb.heap.size wb wq by rw [hq];exact aG HB.out q.low);have dH:=hid (show Below wr.heap.size wr wq by rw [hq];exact q.low);clear hq q;by_cases hz0:r=0;{subst hz0;have lJ:=hid (show Tm.put L ((n1,t1,x1),(n2,t2,x2),n3,t3,x3)=L from abh cZ jL.out HR.out.symm HL.out HT.out);(go_upto_region 4 with fail);have k0:=fun p:Later wq.heap.size wq=>p.keep (aB dH.out c0);have k1:=fun p:Later wq.heap.size wq=>p.keep (aB dH.out c1);have k2:=fun p:Later wq.heap.size wq=>p.keep (aB dH.out c2);have k3:=fun p:Later wq.heap.size wq=>p.keep (aB dH.out c3);have k4:=fun p:Later wq.heap.size wq=>p.keep (aB dH.out c4);have k5:=fun p:Later wq.heap.size wq=>p.keep (aB dH.out c5);have k6:=fun p:Later wq.heap.size wq=>p.keep (aB dH.out c6);have k7:=fun p:Later wq.heap.size wq=>p.keep (aB dH.out c7);have k8:=fun p:Later wq.heap.size wq=>p.keep (aB dH.out c8);have j0:=fun p:Later wq.heap.size wq=>p.keep (aB dH.out d0);have j1:=fun p:Later wq.heap.size wq=>p.keep (aB dH.out d1);have j2:=fun p:Later wq.heap.size wq=>p.keep (aB dH.out d2);have j3:=fun p:Later wq.heap.size wq=>p.keep (aB dH.out d3);have j4:=fun p:Later wq.heap.size wq=>p.keep (aB dH.out d4);have j5:=fun p:Later wq.heap.size wq=>p.keep (aB dH.out d5);have j6:=fun p:Later wq.heap.size wq=>p.keep (aB dH.out d6);have j7:=fun p:Later wq.heap.size wq=>p.keep (aB dH.out d7);have j8:=fun p:Later wq.heap.size wq=>p.keep (aB dH.out d8);refine gM wq.heap.size aD aD ?_;(repeat (go_big_quiet_step (first | (go_at_call 108;with_reducible exact Later.call ay (qh.out _)))));refine wpQuiet_nil ?_;rintro wq2 ⟨q,hq⟩;clear k0 k1 k2 k3 k4 k5 k6 k7 k8 j0 j1 j2 j3 j4 j5 j6 j7 j8 c0 c1 c2 c3 c4 c5 c6 c7 c8 d0 d1 d2 d3 d4 d5 d6 d7 d8;have vw:=hid (show Below wb.heap.size wb wq2 by rw [hq];exact aG ig.out q.low);clear hq q;go_wp2;go_ret;exact ⟨_,rfl,by rw [lJ.out];exact (HV.out.keep HB1.out).keep vw.out,HB1.out.trans (vw.out.mono HB1.out.size)⟩}
      · have aes:(r==0)=false:=beq_eq_false_iff_ne.2 hz0;have lJ:=hid (show Tm.put L ((n1,t1,x1),(n2,t2,x2),n3,t3,x3)=L.take i++((n1,t1,x1),(n2,t2,x2),n3,t3,x3)::L.drop i from Og (by rw [←HN.out];exact hin) jL.out (fun h=>by rw [←HR.out];omega));(go_upto_region 4 with fail);have k0:=fun p:Later wq.heap.size wq=>p.keep (aB dH.out c0);have k1:=fun p:Later wq.heap.size wq=>p.keep (aB dH.out c1);have k2:=fun p:Later wq.heap.size wq=>p.keep (aB dH.out c2);have k3:=fun p:Later wq.heap.size wq=>p.keep (aB dH.out c3);have k4:=fun p:Later wq.heap.size wq=>p.keep (aB dH.out c4);have k5:=fun p:Later wq.heap.size wq=>p.keep (aB dH.out c5);have k6:=fun p:Later wq.heap.size wq=>p.keep (aB dH.out c6);have k7:=fun p:Later wq.heap.size wq=>p.keep (aB dH.out c7);have k8:=fun p:Later wq.heap.size wq=>p.keep (aB dH.out c8);have j0:=fun p:Later wq.heap.size wq=>p.keep (aB dH.out d0);have j1:=fun p:Later wq.heap.size wq=>p.keep (aB dH.out d1);have j2:=fun p:Later wq.heap.size wq=>p.keep (aB dH.out d2);have j3:=fun p:Later wq.heap.size wq=>p.keep (aB dH.out d3);have j4:=fun p:Later wq.heap.size wq=>p.keep (aB dH.out d4);have j5:=fun p:Later wq.heap.size wq=>p.keep (aB dH.out d5);have j6:=fun p:Later wq.heap.size wq=>p.keep (aB dH.out d6);have j7:=fun p:Later wq.heap.size wq=>p.keep (aB dH.out d7);have j8:=fun p:Later wq.heap.size wq=>p.keep (aB dH.out d8);refine gM wq.heap.size aD aD ?_;(repeat (go_big_quiet_step (first | (go_at_call 108;with_reducible exact Later.call ay (qh.out _)))));refine wpQuiet_nil ?_;rintro wq2 ⟨q,hq⟩;clear k0 k1 k2 k3 k4 k5 k6 k7 k8 j0 j1 j2 j3 j4 j5 j6 j7 j8 c0 c1 c2 c3 c4 c5 c6 c7 c8 d0 d1 d2 d3 d4 d5 d6 d7 d8;have aO:=hid (show Below wb.heap.size wb wq2 by rw [hq];exact aG ig.out q.low);have aJ:=hid (show ak wq2 w.heap.size [.int .i64 (n1:Nat),str t1,str x1,.int .i64 (n2:Nat),str t2,str x2,.int .i64 (n3:Nat),str t3,str x3] 67 from iX.out.keep aO.out);have hzb:=iX.out.lt;clear hq q;obtain ⟨w6,bV⟩:=aA wq2;rw [←bV] at aO aJ ⊢;clear bV;have hic:i<cap:=aj;have hA1:i≤cap:=aj;have abq:¬ cap=i:=aj;have hA2:(i:Int)≤(cap:Int):=aj;have hA3:(n:Int)≤(cap:Int):=aj;have hA4:(i:Int)≤(n:Int):=aj;have nH:=hid ((HV.out.front i aj).keep HB1.out);have nW:=hid (show bX wb (.slice (some ⟨bl,off,none⟩) i cap) ((L.take i).map bA) by rw [List.map_take];exact nH.out);have hlt1:(L.take i).length=i:=(by rw [List.length_take,←HN.out];omega);have kP:=hid (ng nW.out).2.1;have kQ:=hid (show (cu (L.take i)).length=i*9 by rw [vv,hlt1]);have F1:=hid (fun W (hW:Below wb.heap.size wb W)=>(ng (nW.out.keep hW)).2.2);have iY:=hid (show bX wb (.slice (some ⟨bl,off+i*9,none⟩) (n-i) (cap-i)) ((L.drop i).map bA) by rw [List.map_drop];exact (HV.out.back i aj).keep HB1.out);have sW:=hid (ng iY.out).2.1;have sZ:=hid (show (cu (L.drop i)).length=(n-i)*9 by rw [vv,←(ng iY.out).1]);have F2:=hid (fun W (hW:Below wb.heap.size wb W)=>(ng (iY.out.keep hW)).2.2);have tq:=hid (show 0+i+1+(n-i)=(L.take i++((n1,t1,x1),(n2,t2,x2),n3,t3,x3)::L.drop i).length by have h:=(ng iY.out).1;rw [List.length_append,List.length_cons,hlt1,←h] <;> omega);clear hlt1;obtain ⟨iS,hi0,bY,bZ,b_⟩:=x9;have iK:=aO.out.size;have Gg:=aJ.out.lt;have OA:=hid (Hr w6.drew wb.heap.size iK);have HA:=hid (aO.out.drew.alloc iK (.cells #[] 67));have UA:=hid (show ak (w6.drew.alloc (.cells #[] 67)) w.heap.size [.int .i64 (n1:Nat),str t1,str x1,.int .i64 (n2:Nat),str t2,str x2,.int .i64 (n3:Nat),str t3,str x3] 67 from aJ.out.alloc _);have OC:=hid (OA.out.alloc (.cells (bA ((n1,t1,x1),(n2,t2,x2),n3,t3,x3)).cells.toArray 67));have HC:=hid (HA.out.alloc HA.out.size (.cells (bA ((n1,t1,x1),(n2,t2,x2),n3,t3,x3)).cells.toArray 67));have UC:=hid (UA.out.alloc (.cells (bA ((n1,t1,x1),(n2,t2,x2),n3,t3,x3)).cells.toArray 67));have TC:=hid (show ak ((w6.drew.alloc (.cells #[] 67)).alloc (.cells (bA ((n1,t1,x1),(n2,t2,x2),n3,t3,x3)).cells.toArray 67)) (w6.heap.size+1) (bA ((n1,t1,x1),(n2,t2,x2),n3,t3,x3)).cells 67 from Qr w6 _ _ _);have nX:=hid (aO.out.drew.alloc iK (.cells (bA ((n1,t1,x1),(n2,t2,x2),n3,t3,x3)).cells.toArray 67));have OE:=hid (show ((w6.drew.alloc (.cells (bA ((n1,t1,x1),(n2,t2,x2),n3,t3,x3)).cells.toArray 67)).alloc (.cells #[] 67)).ownsRow wb.heap.size 67 9 (.slice (some ⟨w6.heap.size+1,0,none⟩) 0 0) 0 [] from Qp w6 wb.heap.size _ iK);have HE:=hid (nX.out.alloc nX.out.size (.cells #[] 67));have UE:=hid (show ak ((w6.drew.alloc (.cells (bA ((n1,t1,x1),(n2,t2,x2),n3,t3,x3)).cells.toArray 67)).alloc (.cells #[] 67)) w.heap.size [.int .i64 (n1:Nat),str t1,str x1,.int .i64 (n2:Nat),str t2,str x2,.int .i64 (n3:Nat),str t3,str x3] 67 from (aJ.out.alloc _).alloc _);have TE:=hid (show ak ((w6.drew.alloc (.cells (bA ((n1,t1,x1),(n2,t2,x2),n3,t3,x3)).cells.toArray 67)).alloc (.cells #[] 67)) w6.heap.size (bA ((n1,t1,x1),(n2,t2,x2),n3,t3,x3)).cells 67 from (Qq w6 _).alloc _);have d0:=aJ.out.cell (i:=0) rfl;have d1:=aJ.out.cell (i:=1) rfl;have d2:=aJ.out.cell (i:=2) rfl;have d3:=aJ.out.cell (i:=3) rfl;have d4:=aJ.out.cell (i:=4) rfl;have d5:=aJ.out.cell (i:=5) rfl;have d6:=aJ.out.cell (i:=6) rfl;have d7:=aJ.out.cell (i:=7) rfl;have d8:=aJ.out.cell (i:=8) rfl;(go_upto_region 6 with fail);go_region_law (first
         | (refine fJ (by rfl) (.tmp 35) (.tmp 38) 39 (by rfl) wb.heap.size 67 iS _ 9 120 underlying39 hi0 bY bZ b_ rfl aH (.slice (some ⟨w6.heap.size,0,none⟩) 0 0) 0 [] (by rfl) OA.out (some ⟨bl,off,none⟩) i cap (cu (L.take i)) (by rfl) kP.out kQ.out (F1.out _ HA.out) (q8 _) ?b1 ?b2 ?b3 ?_
            case b1=>(unfold maxLen;omega)
            case b2=>omega
            case b3=>exact HA.out.size
            intro v1 w1 g1 g2 g3
            have G1:=hid g1
            have bQ:=hid (HA.out.grown g2 HA.out.size (fun k hk=>(OA.out.lt k hk).1))
            have bD:=hid (oN UA.out g2 (fun e=>by have:=(OA.out.lt _ e).1;omega))
            have k0:=bD.out.cell (i:=0) rfl
            have k1:=bD.out.cell (i:=1) rfl
            have k2:=bD.out.cell (i:=2) rfl
            have k3:=bD.out.cell (i:=3) rfl
            have k4:=bD.out.cell (i:=4) rfl
            have k5:=bD.out.cell (i:=5) rfl
            have k6:=bD.out.cell (i:=6) rfl
            have k7:=bD.out.cell (i:=7) rfl
            have k8:=bD.out.cell (i:=8) rfl
            clear g1 g2 g3)
         | (refine fJ (by rfl) (.tmp 35) (.tmp 38) 39 (by rfl) wb.heap.size 67 iS _ 9 120 underlying39 hi0 bY bZ b_ rfl aH (.slice (some ⟨w6.heap.size,0,none⟩) 0 0) 0 [] (by rfl) OC.out (some ⟨bl,off,none⟩) i cap (cu (L.take i)) (by rfl) kP.out kQ.out (F1.out _ HC.out) (q8 _) ?b1 ?b2 ?b3 ?_
            case b1=>(unfold maxLen;omega)
            case b2=>omega
            case b3=>exact HC.out.size
            intro v1 w1 g1 g2 g3
            have G1:=hid g1
            have bQ:=hid (HC.out.grown g2 HC.out.size (fun k hk=>(OC.out.lt k hk).1))
            have bD:=hid (oN UC.out g2 (fun e=>by have:=(OC.out.lt _ e).1;omega))
            have tC:=hid (oN TC.out g2 (fun e=>by simp [Value.ownBlock] at e))
            have k0:=bD.out.cell (i:=0) rfl
            have k1:=bD.out.cell (i:=1) rfl
            have k2:=bD.out.cell (i:=2) rfl
            have k3:=bD.out.cell (i:=3) rfl
            have k4:=bD.out.cell (i:=4) rfl
            have k5:=bD.out.cell (i:=5) rfl
            have k6:=bD.out.cell (i:=6) rfl
            have k7:=bD.out.cell (i:=7) rfl
            have k8:=bD.out.cell (i:=8) rfl
            clear g1 g2 g3)
         | (refine fJ (by rfl) (.tmp 35) (.tmp 38) 39 (by rfl) wb.heap.size 67 iS _ 9 120 underlying39 hi0 bY bZ b_ rfl aH (.slice (some ⟨w6.heap.size+1,0,none⟩) 0 0) 0 [] (by rfl) OE.out (some ⟨bl,off,none⟩) i cap (cu (L.take i)) (by rfl) kP.out kQ.out (F1.out _ HE.out) (q8 _) ?b1 ?b2 ?b3 ?_
            case b1=>(unfold maxLen;omega)
            case b2=>omega
            case b3=>exact HE.out.size
            intro v1 w1 g1 g2 g3
            have G1:=hid g1
            have bQ:=hid (HE.out.grown g2 HE.out.size (fun k hk=>(OE.out.lt k hk).1))
            have bD:=hid (oN UE.out g2 (fun e=>by have:=(OE.out.lt _ e).1;omega))
            have iZ:=hid (oN TE.out g2 (fun e=>by simp [Value.ownBlock] at e))
            have k0:=bD.out.cell (i:=0) rfl
            have k1:=bD.out.cell (i:=1) rfl
            have k2:=bD.out.cell (i:=2) rfl
            have k3:=bD.out.cell (i:=3) rfl
            have k4:=bD.out.cell (i:=4) rfl
            have k5:=bD.out.cell (i:=5) rfl
            have k6:=bD.out.cell (i:=6) rfl
            have k7:=bD.out.cell (i:=7) rfl
            have k8:=bD.out.cell (i:=8) rfl
            clear g1 g2 g3)
         | (refine fJ (by rfl) (.tmp 39) (.tmp 41) 39 (by rfl) wb.heap.size 67 iS _ 9 120 underlying39 hi0 bY bZ b_ rfl aH v1 (0+i) ([]++(cu (L.take i))) (by rfl) (G1.out.alloc _) (some ⟨w1.heap.size,0,none⟩) 1 1 (bA ((n1,t1,x1),(n2,t2,x2),n3,t3,x3)).cells (by rfl) (fun h=>by cases h) rfl (FU w1 ((n1,t1,x1),(n2,t2,x2),n3,t3,x3)) (qc ((n1,t1,x1),(n2,t2,x2),n3,t3,x3)) ?b1 ?b2 ?b3 ?_
            case b1=>(unfold maxLen;omega)
            case b2=>omega
            case b3=>exact (bQ.out.alloc bQ.out.size _).size
            intro v2 w2 g1 g2 g3
            have G2:=hid g1
            have gy:=hid ((bQ.out.alloc bQ.out.size _).grown g2 (bQ.out.alloc bQ.out.size _).size (fun k hk=>(G1.out.lt k hk).1))
            clear g1 g2 g3)
         | (refine fJ (by rfl) (.tmp 39) (.tmp 41) 39 (by rfl) wb.heap.size 67 iS _ 9 120 underlying39 hi0 bY bZ b_ rfl aH v1 (0+i) ([]++(cu (L.take i))) (by rfl) G1.out (some ⟨w6.heap.size+1,0,none⟩) 1 1 (bA ((n1,t1,x1),(n2,t2,x2),n3,t3,x3)).cells (by rfl) (fun h=>by cases h) rfl (Cx tC.out) (qc ((n1,t1,x1),(n2,t2,x2),n3,t3,x3)) ?b1 ?b2 ?b3 ?_
            case b1=>(unfold maxLen;omega)
            case b2=>omega
            case b3=>exact bQ.out.size
            intro v2 w2 g1 g2 g3
            have G2:=hid g1
            have gy:=hid (bQ.out.grown g2 bQ.out.size (fun k hk=>(G1.out.lt k hk).1))
            clear g1 g2 g3)
         | (refine fJ (by rfl) (.tmp 39) (.tmp 41) 39 (by rfl) wb.heap.size 67 iS _ 9 120 underlying39 hi0 bY bZ b_ rfl aH v1 (0+i) ([]++(cu (L.take i))) (by rfl) G1.out (some ⟨w6.heap.size,0,none⟩) 1 1 (bA ((n1,t1,x1),(n2,t2,x2),n3,t3,x3)).cells (by rfl) (fun h=>by cases h) rfl (Cx iZ.out) (qc ((n1,t1,x1),(n2,t2,x2),n3,t3,x3)) ?b1 ?b2 ?b3 ?_
            case b1=>(unfold maxLen;omega)
            case b2=>omega
            case b3=>exact bQ.out.size
            intro v2 w2 g1 g2 g3
            have G2:=hid g1
            have gy:=hid (bQ.out.grown g2 bQ.out.size (fun k hk=>(G1.out.lt k hk).1))
            clear g1 g2 g3)
         | (refine fJ (by rfl) (.tmp 42) (.tmp 45) 39 (by rfl) wb.heap.size 67 iS _ 9 120 underlying39 hi0 bY bZ b_ rfl aH v2 (0+i+1) (([]++(cu (L.take i)))++(bA ((n1,t1,x1),(n2,t2,x2),n3,t3,x3)).cells) (by rfl) G2.out (some ⟨bl,off+i*9,none⟩) (n-i) (cap-i) (cu (L.drop i)) (by rfl) sW.out sZ.out (F2.out _ gy.out) (q8 _) ?b1 ?b2 ?b3 ?_
            case b1=>(unfold maxLen;omega)
            case b2=>omega
            case b3=>exact gy.out.size
            intro v3 w3 g1 g2 g3
            have G3:=hid g1
            have tF:=hid (gy.out.grown g2 gy.out.size (fun k hk=>(G2.out.lt k hk).1))
            clear g1 g2 g3)
         | fail)
        all_goals
         have mq:=hid (Qs (L:=L) (t:=((n1,t1,x1),(n2,t2,x2),n3,t3,x3)) (i:=i) G3.out tq.out)
         go_wp2
         go_ret
         exact ⟨v3,rfl,by rw [lJ.out];exact mq.out,HB1.out.trans (tF.out.mono HB1.out.size)⟩
  · obtain rfl:i=n:=aj;have hltz:¬ (i:Int)<(i:Int):=aj;have Gd:decide ((i:Int)<(i:Int))=false:=decide_eq_false hltz;have lJ:=hid (show Tm.put L ((n1,t1,x1),(n2,t2,x2),n3,t3,x3)=L.take i++((n1,t1,x1),(n2,t2,x2),n3,t3,x3)::L.drop i from Og (by rw [←HN.out];exact hin) jL.out (fun h=>by have:=HN.out;omega));(go_upto_region 2 with fail);refine gM wr.heap.size aD aD ?_;(repeat (go_big_quiet_step (first | fail)));refine wpQuiet_nil ?_;rintro wq ⟨q,hq⟩;have ig:=hid (show Below wb.heap.size wb wq by rw [hq];exact aG HB.out q.low);clear hq q;(go_upto_region 4 with fail);refine gM wq.heap.size aD aD ?_;(repeat (go_big_quiet_step (first | fail)));refine wpQuiet_nil ?_;rintro wq2 ⟨q,hq⟩;have aO:=hid (show Below wb.heap.size wb wq2 by rw [hq];exact aG ig.out q.low);have aJ:=hid (show ak wq2 w.heap.size [.int .i64 (n1:Nat),str t1,str x1,.int .i64 (n2:Nat),str t2,str x2,.int .i64 (n3:Nat),str t3,str x3] 67 from iX.out.keep aO.out);have hzb:=iX.out.lt;clear hq q;obtain ⟨w6,bV⟩:=aA wq2;rw [←bV] at aO aJ ⊢;clear bV;have hde:(L.drop i).map bA=[]:=(by rw [List.drop_eq_nil_of_le (by rw [←HN.out];exact Nat.le_refl _)];rfl);obtain ⟨fa,fc,ba,bc,hS1,hS2,Gh,hB0⟩:∃ (fa:Option Addr) (fc:Nat) (ba:Option Addr) (bc:Nat),(∀ W,(Instr.sliceAt 39 (.slice a i cap) none (some (.int .i64 (i:Int))) none).run prog W=.ok (.slice fa i fc) W)∧(∀ W,(Instr.sliceAt 39 (.slice a i cap) (some (.int .i64 (i:Int))) none none).run prog W=.ok (.slice ba 0 bc) W)∧bX wb (.slice fa i fc) ((L.take i).map bA)∧bX wb (.slice ba 0 bc) ((L.drop i).map bA):=(by have hA1:(i:Int)≤(cap:Int):=aj;have qj:∀ x c,c≤maxLen→(x=none→c=0)→bX wb (.slice x 0 c) ((L.drop i).map bA):=fun x c h1 h2=>(by rw [hde];exact ⟨_,_,rfl,Nat.zero_le _,h1,h2,.inl rfl⟩);have ql:bX wb (.slice a i cap) ((L.take i).map bA):=(by rw [List.map_take];exact (HV.out.front i aj).keep HB1.out);have hz0:(0:Nat)≤maxLen:=(by unfold maxLen;omega);rcases Nat.eq_zero_or_pos i with qm | qm;{subst qm;rcases a with _ | ad;{obtain rfl:cap=0:=hc3 rfl;exact ⟨none,0,none,0,fun W=>by simp [go_sem],fun W=>by simp [go_sem],ql,qj _ _ hz0 (fun _=>rfl)⟩};{exact ⟨some ad,cap,some ad,cap,fun W=>by simp [go_sem],fun W=>by simp [go_sem],ql,qj _ _ aj (fun h=>by cases h)⟩}};{obtain ⟨bl,off,rfl,hrow⟩:=HV.out.get (i:=0) (by first | (rw [List.length_map,←HN.out];exact qm) | (rw [←HN.out];exact qm));clear hrow;by_cases hck:cap=i;{subst hck;exact ⟨some ⟨bl,off,none⟩,cap,some ⟨bl,off,none⟩,0,fun W=>by simp [go_sem],fun W=>by simp [go_sem],ql,qj _ _ hz0 (fun h=>by cases h)⟩};{have Gi:¬ cap-i=0:=aj;exact ⟨some ⟨bl,off,none⟩,cap,some ⟨bl,off+i*9,none⟩,cap-i,fun W=>by simp [go_sem,hA1],fun W=>by simp [go_sem,hA1,hck,Gi],ql,qj _ _ aj (fun h=>by cases h)⟩}});obtain ⟨v0,hv0⟩:=aA (Value.slice a i cap);rw [←hv0] at hS1 hS2 ⊢;clear hv0;have hA2:(i:Int)≤(cap:Int):=aj;have nW:=hid Gh;have hlt1:(L.take i).length=i:=(by rw [List.length_take,←HN.out];omega);have kP:=hid (ng nW.out).2.1;have kQ:=hid (show (cu (L.take i)).length=i*9 by rw [vv,hlt1]);have F1:=hid (fun W (hW:Below wb.heap.size wb W)=>(ng (nW.out.keep hW)).2.2);have iY:=hid hB0;have sW:=hid (ng iY.out).2.1;have sZ:=hid (show (cu (L.drop i)).length=0*9 by rw [vv,←(ng iY.out).1]);have F2:=hid (fun W (hW:Below wb.heap.size wb W)=>(ng (iY.out.keep hW)).2.2);have tq:=hid (show 0+i+1+0=(L.take i++((n1,t1,x1),(n2,t2,x2),n3,t3,x3)::L.drop i).length by have h:=(ng iY.out).1;rw [List.length_append,List.length_cons,hlt1,←h] <;> omega);clear hlt1;obtain ⟨iS,hi0,bY,bZ,b_⟩:=x9;have iK:=aO.out.size;have Gg:=aJ.out.lt;have OA:=hid (Hr w6.drew wb.heap.size iK);have HA:=hid (aO.out.drew.alloc iK (.cells #[] 67));have UA:=hid (show ak (w6.drew.alloc (.cells #[] 67)) w.heap.size [.int .i64 (n1:Nat),str t1,str x1,.int .i64 (n2:Nat),str t2,str x2,.int .i64 (n3:Nat),str t3,str x3] 67 from aJ.out.alloc _);have OC:=hid (OA.out.alloc (.cells (bA ((n1,t1,x1),(n2,t2,x2),n3,t3,x3)).cells.toArray 67));have HC:=hid (HA.out.alloc HA.out.size (.cells (bA ((n1,t1,x1),(n2,t2,x2),n3,t3,x3)).cells.toArray 67));have UC:=hid (UA.out.alloc (.cells (bA ((n1,t1,x1),(n2,t2,x2),n3,t3,x3)).cells.toArray 67));have TC:=hid (show ak ((w6.drew.alloc (.cells #[] 67)).alloc (.cells (bA ((n1,t1,x1),(n2,t2,x2),n3,t3,x3)).cells.toArray 67)) (w6.heap.size+1) (bA ((n1,t1,x1),(n2,t2,x2),n3,t3,x3)).cells 67 from Qr w6 _ _ _);have nX:=hid (aO.out.drew.alloc iK (.cells (bA ((n1,t1,x1),(n2,t2,x2),n3,t3,x3)).cells.toArray 67));have OE:=hid (show ((w6.drew.alloc (.cells (bA ((n1,t1,x1),(n2,t2,x2),n3,t3,x3)).cells.toArray 67)).alloc (.cells #[] 67)).ownsRow wb.heap.size 67 9 (.slice (some ⟨w6.heap.size+1,0,none⟩) 0 0) 0 [] from Qp w6 wb.heap.size _ iK);have HE:=hid (nX.out.alloc nX.out.size (.cells #[] 67));have UE:=hid (show ak ((w6.drew.alloc (.cells (bA ((n1,t1,x1),(n2,t2,x2),n3,t3,x3)).cells.toArray 67)).alloc (.cells #[] 67)) w.heap.size [.int .i64 (n1:Nat),str t1,str x1,.int .i64 (n2:Nat),str t2,str x2,.int .i64 (n3:Nat),str t3,str x3] 67 from (aJ.out.alloc _).alloc _);have TE:=hid (show ak ((w6.drew.alloc (.cells (bA ((n1,t1,x1),(n2,t2,x2),n3,t3,x3)).cells.toArray 67)).alloc (.cells #[] 67)) w6.heap.size (bA ((n1,t1,x1),(n2,t2,x2),n3,t3,x3)).cells 67 from (Qq w6 _).alloc _);have d0:=aJ.out.cell (i:=0) rfl;have d1:=aJ.out.cell (i:=1) rfl;have d2:=aJ.out.cell (i:=2) rfl;have d3:=aJ.out.cell (i:=3) rfl;have d4:=aJ.out.cell (i:=4) rfl;have d5:=aJ.out.cell (i:=5) rfl;have d6:=aJ.out.cell (i:=6) rfl;have d7:=aJ.out.cell (i:=7) rfl;have d8:=aJ.out.cell (i:=8) rfl;(go_upto_region 6 with fail);go_region_law (first
     | (refine fJ (by rfl) (.tmp 35) (.tmp 38) 39 (by rfl) wb.heap.size 67 iS _ 9 120 underlying39 hi0 bY bZ b_ rfl aH (.slice (some ⟨w6.heap.size,0,none⟩) 0 0) 0 [] (by rfl) OA.out fa i fc (cu (L.take i)) (by rfl) kP.out kQ.out (F1.out _ HA.out) (q8 _) ?b1 ?b2 ?b3 ?_
        case b1=>(unfold maxLen;omega)
        case b2=>omega
        case b3=>exact HA.out.size
        intro v1 w1 g1 g2 g3
        have G1:=hid g1
        have bQ:=hid (HA.out.grown g2 HA.out.size (fun k hk=>(OA.out.lt k hk).1))
        have bD:=hid (oN UA.out g2 (fun e=>by have:=(OA.out.lt _ e).1;omega))
        have k0:=bD.out.cell (i:=0) rfl
        have k1:=bD.out.cell (i:=1) rfl
        have k2:=bD.out.cell (i:=2) rfl
        have k3:=bD.out.cell (i:=3) rfl
        have k4:=bD.out.cell (i:=4) rfl
        have k5:=bD.out.cell (i:=5) rfl
        have k6:=bD.out.cell (i:=6) rfl
        have k7:=bD.out.cell (i:=7) rfl
        have k8:=bD.out.cell (i:=8) rfl
        clear g1 g2 g3)
     | (refine fJ (by rfl) (.tmp 35) (.tmp 38) 39 (by rfl) wb.heap.size 67 iS _ 9 120 underlying39 hi0 bY bZ b_ rfl aH (.slice (some ⟨w6.heap.size,0,none⟩) 0 0) 0 [] (by rfl) OC.out fa i fc (cu (L.take i)) (by rfl) kP.out kQ.out (F1.out _ HC.out) (q8 _) ?b1 ?b2 ?b3 ?_
        case b1=>(unfold maxLen;omega)
        case b2=>omega
        case b3=>exact HC.out.size
        intro v1 w1 g1 g2 g3
        have G1:=hid g1
        have bQ:=hid (HC.out.grown g2 HC.out.size (fun k hk=>(OC.out.lt k hk).1))
        have bD:=hid (oN UC.out g2 (fun e=>by have:=(OC.out.lt _ e).1;omega))
        have tC:=hid (oN TC.out g2 (fun e=>by simp [Value.ownBlock] at e))
        have k0:=bD.out.cell (i:=0) rfl
        have k1:=bD.out.cell (i:=1) rfl
        have k2:=bD.out.cell (i:=2) rfl
        have k3:=bD.out.cell (i:=3) rfl
        have k4:=bD.out.cell (i:=4) rfl
        have k5:=bD.out.cell (i:=5) rfl
        have k6:=bD.out.cell (i:=6) rfl
        have k7:=bD.out.cell (i:=7) rfl
        have k8:=bD.out.cell (i:=8) rfl
        clear g1 g2 g3)
     | (refine fJ (by rfl) (.tmp 35) (.tmp 38) 39 (by rfl) wb.heap.size 67 iS _ 9 120 underlying39 hi0 bY bZ b_ rfl aH (.slice (some ⟨w6.heap.size+1,0,none⟩) 0 0) 0 [] (by rfl) OE.out fa i fc (cu (L.take i)) (by rfl) kP.out kQ.out (F1.out _ HE.out) (q8 _) ?b1 ?b2 ?b3 ?_
        case b1=>(unfold maxLen;omega)
        case b2=>omega
        case b3=>exact HE.out.size
        intro v1 w1 g1 g2 g3
        have G1:=hid g1
        have bQ:=hid (HE.out.grown g2 HE.out.size (fun k hk=>(OE.out.lt k hk).1))
        have bD:=hid (oN UE.out g2 (fun e=>by have:=(OE.out.lt _ e).1;omega))
        have iZ:=hid (oN TE.out g2 (fun e=>by simp [Value.ownBlock] at e))
        have k0:=bD.out.cell (i:=0) rfl
        have k1:=bD.out.cell (i:=1) rfl
        have k2:=bD.out.cell (i:=2) rfl
        have k3:=bD.out.cell (i:=3) rfl
        have k4:=bD.out.cell (i:=4) rfl
        have k5:=bD.out.cell (i:=5) rfl
        have k6:=bD.out.cell (i:=6) rfl
        have k7:=bD.out.cell (i:=7) rfl
        have k8:=bD.out.cell (i:=8) rfl
        clear g1 g2 g3)
     | (refine fJ (by rfl) (.tmp 39) (.tmp 41) 39 (by rfl) wb.heap.size 67 iS _ 9 120 underlying39 hi0 bY bZ b_ rfl aH v1 (0+i) ([]++(cu (L.take i))) (by rfl) (G1.out.alloc _) (some ⟨w1.heap.size,0,none⟩) 1 1 (bA ((n1,t1,x1),(n2,t2,x2),n3,t3,x3)).cells (by rfl) (fun h=>by cases h) rfl (FU w1 ((n1,t1,x1),(n2,t2,x2),n3,t3,x3)) (qc ((n1,t1,x1),(n2,t2,x2),n3,t3,x3)) ?b1 ?b2 ?b3 ?_
        case b1=>(unfold maxLen;omega)
        case b2=>omega
        case b3=>exact (bQ.out.alloc bQ.out.size _).size
        intro v2 w2 g1 g2 g3
        have G2:=hid g1
        have gy:=hid ((bQ.out.alloc bQ.out.size _).grown g2 (bQ.out.alloc bQ.out.size _).size (fun k hk=>(G1.out.lt k hk).1))
        clear g1 g2 g3)
     | (refine fJ (by rfl) (.tmp 39) (.tmp 41) 39 (by rfl) wb.heap.size 67 iS _ 9 120 underlying39 hi0 bY bZ b_ rfl aH v1 (0+i) ([]++(cu (L.take i))) (by rfl) G1.out (some ⟨w6.heap.size+1,0,none⟩) 1 1 (bA ((n1,t1,x1),(n2,t2,x2),n3,t3,x3)).cells (by rfl) (fun h=>by cases h) rfl (Cx tC.out) (qc ((n1,t1,x1),(n2,t2,x2),n3,t3,x3)) ?b1 ?b2 ?b3 ?_
        case b1=>(unfold maxLen;omega)
        case b2=>omega
        case b3=>exact bQ.out.size
        intro v2 w2 g1 g2 g3
        have G2:=hid g1
        have gy:=hid (bQ.out.grown g2 bQ.out.size (fun k hk=>(G1.out.lt k hk).1))
        clear g1 g2 g3)
     | (refine fJ (by rfl) (.tmp 39) (.tmp 41) 39 (by rfl) wb.heap.size 67 iS _ 9 120 underlying39 hi0 bY bZ b_ rfl aH v1 (0+i) ([]++(cu (L.take i))) (by rfl) G1.out (some ⟨w6.heap.size,0,none⟩) 1 1 (bA ((n1,t1,x1),(n2,t2,x2),n3,t3,x3)).cells (by rfl) (fun h=>by cases h) rfl (Cx iZ.out) (qc ((n1,t1,x1),(n2,t2,x2),n3,t3,x3)) ?b1 ?b2 ?b3 ?_
        case b1=>(unfold maxLen;omega)
        case b2=>omega
        case b3=>exact bQ.out.size
        intro v2 w2 g1 g2 g3
        have G2:=hid g1
        have gy:=hid (bQ.out.grown g2 bQ.out.size (fun k hk=>(G1.out.lt k hk).1))
        clear g1 g2 g3)
     | (refine fJ (by rfl) (.tmp 42) (.tmp 45) 39 (by rfl) wb.heap.size 67 iS _ 9 120 underlying39 hi0 bY bZ b_ rfl aH v2 (0+i+1) (([]++(cu (L.take i)))++(bA ((n1,t1,x1),(n2,t2,x2),n3,t3,x3)).cells) (by rfl) G2.out ba 0 bc (cu (L.drop i)) (by rfl) sW.out sZ.out (F2.out _ gy.out) (q8 _) ?b1 ?b2 ?b3 ?_
        case b1=>(unfold maxLen;omega)
        case b2=>omega
        case b3=>exact gy.out.size
        intro v3 w3 g1 g2 g3
        have G3:=hid g1
        have tF:=hid (gy.out.grown g2 gy.out.size (fun k hk=>(G2.out.lt k hk).1))
        clear g1 g2 g3)
     | fail)
    all_goals
     have mq:=hid (Qs (L:=L) (t:=((n1,t1,x1),(n2,t2,x2),n3,t3,x3)) (i:=i) G3.out tq.out)
     go_wp2
     go_ret
     exact ⟨v3,rfl,by rw [lJ.out];exact mq.out,HB1.out.trans (tF.out.mono HB1.out.size)⟩
theorem ac4 (k1:Int) (t1 x1:List UInt8) (k2:Int) (t2 x2:List UInt8) (k3:Int) (t3 x3:List UInt8) (w:World) :
  (binOp .neq 67 (fD k1 t1 x1 k2 t2 x2 k3 t3 x3) (fD k1 t1 x1 k2 t2 x2 k3 t3 x3)).run prog w=.ok (.bool false) w:=by simp [go_sem]
theorem ac5 (L:List eT) (w:World) (v1 v2:Value) (h1:bX w v1 L) (h2:bX w v2 L) (hn:L.length≤100000) :
  Calls prog 41 #[v1,v2] w fun e w'=>e=.returned (.bool true)∧∃ q,w'=w.drewN q:=by
 obtain ⟨a,cap,rfl,_⟩:=h1.open;obtain ⟨b,cap2,rfl,_⟩:=h2.open;have HV:=hid h1;have HW:=hid h2;obtain ⟨n,hn0⟩:=aA L.length;rw [←hn0] at HV HW hn ⊢;have HN:=hid hn0;clear h1 h2 hn0;go_enter func41,ntmps41;go_wp2;go_loopg [5] n (fun gk s5 wr=>∃ (i:Nat),s5=.int .i64 i∧i≤n∧n-i≤gk∧∃ m,wr=w.drewN m)
 case atStart=>exact ⟨0,rfl,Nat.zero_le _,Nat.le_refl _,0,rfl⟩
 case round=>
  obtain ⟨i,rfl,hin,hg,m,rfl⟩:=hrel;by_cases hlt:i<n
  · have hltz:(i:Int)<(n:Int):=aj;have cZ:i<L.length:=(by rw [←HN.out];exact hlt);obtain ⟨bl,off,rfl,hrow⟩:=HV.out.get (i:=i) cZ;obtain ⟨bm,ofm,rfl,hrow2⟩:=HW.out.get (i:=i) cZ;have HRW:=hid (hrow i cZ);have oO:=hid (hrow2 i cZ);clear hrow hrow2;obtain ⟨t,ht⟩:=aA (L[i]);rw [←ht] at HRW oO;clear ht;obtain ⟨k1,t1,x1,k2,t2,x2,k3,t3,x3⟩:=t;have EQ:=fun W=>ac4 k1 t1 x1 k2 t2 x2 k3 t3 x3 W;have c0:=HRW.out 0 aj;have c1:=HRW.out 1 aj;have c2:=HRW.out 2 aj;have c3:=HRW.out 3 aj;have c4:=HRW.out 4 aj;have c5:=HRW.out 5 aj;have c6:=HRW.out 6 aj;have c7:=HRW.out 7 aj;have c8:=HRW.out 8 aj;have d0:=oO.out 0 aj;have d1:=oO.out 1 aj;have d2:=oO.out 2 aj;have d3:=oO.out 3 aj;have d4:=oO.out 4 aj;have d5:=oO.out 5 aj;have d6:=oO.out 6 aj;have d7:=oO.out 7 aj;have d8:=oO.out 8 aj;simp only [eT.cells,List.getElem?_cons_zero,List.getElem?_cons_succ,Nat.add_zero] at c0 c1 c2 c3 c4 c5 c6 c7 c8 d0 d1 d2 d3 d4 d5 d6 d7 d8;go_wp2;(go_quiet (fail));go_wp2;go_roundg (n-(i+1))
    (case measure=>omega);case rel=>exact ⟨i+1,aN,aj,aj,_,rfl⟩
  {obtain rfl:i=n:=aj;have hltz:¬ (i:Int)<(i:Int):=aj;go_wp2;go_ret;exact ⟨rfl,_,rfl⟩}
end Go.Proofs.YtjaebndajhppgaaGreatDoor
