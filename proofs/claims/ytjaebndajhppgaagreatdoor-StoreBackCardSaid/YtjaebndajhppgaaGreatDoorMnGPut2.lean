/-GPut2-/
import Derived.Test.YtjaebndajhppgaaGreatDoorMnGPut
set_option linter.unusedVariables false
set_option linter.unusedSimpArgs false
set_option maxRecDepth 100000
set_option maxHeartbeats 8000000
namespace Go.Proofs.YtjaebndajhppgaaGreatDoor
open Go.ChangeShapes Go.WideShapes Go.ChangeAt Go.RowKit
theorem nE {W w1:World} {q:Nat} {A:List Value} {t:TypeId} {row:Option Nat} (h:aj W q A t) (hg:W.grownBy w1 row) (hne:row≠some q):aj w1 q A t:=by have hlt:=h.lt;unfold aj at h ⊢;rw [hg.block q hlt (fun e=>hne e.symm)];exact h
theorem Bq {W:World} {b:Nat} {A:List Value} {t:TypeId} (h:aj W b A t):∀ ad,some (⟨b,0,none⟩:Addr)=some ad→∀ j u,A[j]?=some u→W.cell? (ad.add j)=some u:=by intro ad had j u hu;cases had;rw [iF rfl,Nat.zero_add];exact h.cell hu
theorem Gp (W:World) (B:Nat) (hB:B≤W.heap.size):(W.alloc (.cells #[] 67)).ownsRow B 67 9 (.slice (some ⟨W.heap.size,0,none⟩) 0 0) 0 []:=by have h:=World.ownsRow_made W (#[]:Array Value) 0 (Nat.le_refl _) (by unfold maxLen;omega) rfl (e:=67) (size:=9);obtain ⟨h1,h2⟩:=h;refine ⟨h1,?_⟩;rcases h2 with h2 | ⟨g,cap,cur,e,hg,rest⟩;{exact .inl h2};{exact .inr ⟨g,cap,cur,e,by omega,rest⟩}
theorem OZ (W:World) (B:Nat) (o:Obj) (hB:B≤W.heap.size):((W.drew.alloc o).alloc (.cells #[] 67)).ownsRow B 67 9 (.slice (some ⟨W.heap.size+1,0,none⟩) 0 0) 0 []:=by
 have h:=Gp (W.drew.alloc o) B (by simp;show B≤W.heap.size+1;omega);have e:(W.drew.alloc o).heap.size=W.heap.size+1:=by simp
 rw [e] at h;exact h
theorem O7 (W:World) (A:List Value):aj (W.drew.alloc (.cells A.toArray 67)) W.heap.size A 67:=aj.new W.drew A 67
theorem O9 (W:World) (o:Obj) (A:List Value) (t:TypeId):aj ((W.drew.alloc o).alloc (.cells A.toArray t)) (W.heap.size+1) A t:=by
 have h:=aj.new (W.drew.alloc o) A t;have e:(W.drew.alloc o).heap.size=W.heap.size+1:=by simp
 rw [e] at h;exact h
theorem O_ {L:List TR} {t:TR} {i N B:Nat} {w3:World} {v3:Value} (h:w3.ownsRow B 67 9 v3 N ((([]++bK (L.take i))++(aK t).cells)++bK (L.drop i))) (hN:N=(L.take i++t::L.drop i).length):bB w3 v3 ((L.take i++t::L.drop i).map aK):=by subst hN;refine Bf (B:=B) ?_;rw [acp,show bK (t::L.drop i)=(aK t).cells++bK (L.drop i) from rfl,←List.append_assoc];exact h
theorem acr (L:List TR) (hl:∀ t∈L,Tm.aN t=true) (hn:L.length≤100000) (t:TR) (ht:Tm.aN t=true) (w:World) (v:Value) (hv:bB w v (L.map aK)) :
  Calls Tryz.prog 66 #[v,nR t] w fun e w'=>∃ v',e=.returned v'∧bB w' v' ((Tm.put L t).map aK)∧Below w.heap.size w w':=by
 obtain ⟨a,cap,rfl,hc1,hc2,hc3⟩:=hv.open;have HV:=hid hv;have HL:=hid hl;rw [List.length_map] at HV hc1 ⊢;obtain ⟨n,hn0⟩:∃ n,n=L.length:=⟨_,rfl⟩;rw [←hn0] at HV hn hc1 ⊢;have HN:=hid hn0;have HT:=hid ht;have CP:=hid (fun (x:TR) (hx:Tm.aN x=true) W=>acn x t hx ht W);obtain ⟨⟨n1,t1,x1⟩,⟨n2,t2,x2⟩,n3,t3,x3⟩:=t;have HB1:=hid (show Below w.heap.size w (aM w n1 t1 x1 n2 t2 x2 n3 t3 x3) from (Below.refl _ _).alloc (Nat.le_refl _) _);have gZ:=hid (fE w n1 t1 x1 n2 t2 x2 n3 t3 x3);clear hv hl ht hn0;go_enter Tryz.func66,Tryz.ntmps66;go_upto_region 1 with fail
 show Code.wp _ _ _ _ (aM w n1 t1 x1 n2 t2 x2 n3 t3 x3);obtain ⟨wb,hwb⟩:∃ wb,wb=aM w n1 t1 x1 n2 t2 x2 n3 t3 x3:=⟨_,rfl⟩;rw [←hwb] at HB1 gZ ⊢;clear hwb;go_wp2;go_loopg [5] n (fun gk s5 wr=>∃ (i:Nat),s5=.int .i64 i∧i≤n∧n-i≤gk∧Hid (Below wb.heap.size wb wr)∧Hid (∀ j (h:j<L.length),j<i→Tm.bD L[j] ((n1,t1,x1),(n2,t2,x2),n3,t3,x3)<0))
 case atStart=>exact ⟨0,by go_num,Nat.zero_le _,Nat.le_refl _,Below.refl _ _,hid (fun j h h2=>absurd h2 (Nat.not_lt_zero _))⟩
 case round=>
  obtain ⟨i,rfl,hin,hg,HB,fD⟩:=hrel;have kP:=hid (gZ.out.keep HB.out);by_cases hlt:i<n
  · have hltz:(i:Int)<(n:Int):=(by omega);have Gq:decide ((i:Int)<(n:Int))=true:=decide_eq_true hltz;have aZ:i<L.length:=(by rw [←HN.out];exact hlt);have Gr:=hid (HL.out L[i] (List.getElem_mem aZ));have gD:=hid ((HV.out.keep HB1.out).keep HB.out);obtain ⟨bl,off,hab,hrow⟩:=gD.out.get (i:=i) (by rw [List.length_map];exact aZ);have HRW:=hid (hrow i (by rw [List.length_map];exact aZ));rw [List.getElem_map] at HRW;have oI:=hid (fun W=>CP.out L[i] Gr.out W);obtain ⟨r,hr⟩:∃ r,r=Tm.bD L[i] ((n1,t1,x1),(n2,t2,x2),n3,t3,x3):=⟨_,rfl⟩;rw [←hr] at oI;have HR:=hid hr;obtain ⟨p,hp⟩:∃ p,p=L[i]:=⟨_,rfl⟩;rw [←hp] at HRW oI;clear hp hr hrow;obtain ⟨⟨m1,u1,y1⟩,⟨m2,u2,y2⟩,m3,u3,y3⟩:=p;have ko:=hid hab;subst hab;have oJ:Hid (∀ W,Calls Tryz.prog 108 #[dQ (m1:Nat) u1 y1 (m2:Nat) u2 y2 (m3:Nat) u3 y3,dQ (n1:Nat) t1 x1 (n2:Nat) t2 x2 (n3:Nat) t3 x3] W fun e w'=>e=.returned (.int .i64 r)∧Below W.heap.size W w'):=oI;clear oI;have c0:=HRW.out 0 (by omega);have c1:=HRW.out 1 (by omega);have c2:=HRW.out 2 (by omega);have c3:=HRW.out 3 (by omega);have c4:=HRW.out 4 (by omega);have c5:=HRW.out 5 (by omega);have c6:=HRW.out 6 (by omega);have c7:=HRW.out 7 (by omega);have c8:=HRW.out 8 (by omega);simp only [aK,bL.cells,List.getElem?_cons_zero,List.getElem?_cons_succ,Nat.add_zero] at c0 c1 c2 c3 c4 c5 c6 c7 c8;have k0:=fun p:Later wr.heap.size wr=>p.keep c0;have k1:=fun p:Later wr.heap.size wr=>p.keep c1;have k2:=fun p:Later wr.heap.size wr=>p.keep c2;have k3:=fun p:Later wr.heap.size wr=>p.keep c3;have k4:=fun p:Later wr.heap.size wr=>p.keep c4;have k5:=fun p:Later wr.heap.size wr=>p.keep c5;have k6:=fun p:Later wr.heap.size wr=>p.keep c6;have k7:=fun p:Later wr.heap.size wr=>p.keep c7;have k8:=fun p:Later wr.heap.size wr=>p.keep c8;have d0:=kP.out.cell (i:=0) rfl;have d1:=kP.out.cell (i:=1) rfl;have d2:=kP.out.cell (i:=2) rfl;have d3:=kP.out.cell (i:=3) rfl;have d4:=kP.out.cell (i:=4) rfl;have d5:=kP.out.cell (i:=5) rfl;have d6:=kP.out.cell (i:=6) rfl;have d7:=kP.out.cell (i:=7) rfl;have d8:=kP.out.cell (i:=8) rfl;have j0:=fun p:Later wr.heap.size wr=>p.keep d0;have j1:=fun p:Later wr.heap.size wr=>p.keep d1;have j2:=fun p:Later wr.heap.size wr=>p.keep d2;have j3:=fun p:Later wr.heap.size wr=>p.keep d3;have j4:=fun p:Later wr.heap.size wr=>p.keep d4;have j5:=fun p:Later wr.heap.size wr=>p.keep d5;have j6:=fun p:Later wr.heap.size wr=>p.keep d6;have j7:=fun p:Later wr.heap.size wr=>p.keep d7;have j8:=fun p:Later wr.heap.size wr=>p.keep d8;by_cases hneg:r<0
    · have dn:decide (r<0)=true:=decide_eq_true hneg;(go_upto_region 2 with fail);refine fA wr.heap.size (by kernel_rfl) (by kernel_rfl) ?_;(repeat (go_big_quiet_step (first | (go_at_call 108;with_reducible exact Later.call (Nat.le_refl _) (oJ.out _)))));refine wpQuiet_nil ?_;rintro wq ⟨q,hq⟩;have f_:=hid (show Below wb.heap.size wb wq by rw [hq];exact aA HB.out q.low);clear hq q k0 k1 k2 k3 k4 k5 k6 k7 k8 j0 j1 j2 j3 j4 j5 j6 j7 j8;go_wp2;go_roundg (n-(i+1))
      (case measure=>omega);case rel=>exact ⟨i+1,by go_num,by omega,by omega,f_.out,by
       show ∀ _,_;intro j h hj;rcases Nat.lt_or_ge j i with h2 | h2;{exact fD.out j h h2}
       · obtain rfl:j=i:=(by omega);rw [←HR.out];exact hneg⟩
    · have dn:decide (r<0)=false:=decide_eq_false hneg;(go_upto_region 2 with fail);refine fA wr.heap.size (by kernel_rfl) (by kernel_rfl) ?_;(repeat (go_big_quiet_step (first | (go_at_call 108;with_reducible exact Later.call (Nat.le_refl _) (oJ.out _)))));refine wpQuiet_nil ?_;clear k0 k1 k2 k3 k4 k5 k6 k7 k8 j0 j1 j2 j3 j4 j5 j6 j7 j8;rintro wq ⟨q,hq⟩;have f_:=hid (show Below wb.heap.size wb wq by rw [hq];exact aA HB.out q.low);have bT:=hid (show Below wr.heap.size wr wq by rw [hq];exact q.low);clear hq q;by_cases hz0:r=0;{subst hz0;have ku:=hid (show Tm.put L ((n1,t1,x1),(n2,t2,x2),n3,t3,x3)=L from aco aZ fD.out HR.out.symm HL.out HT.out);(go_upto_region 4 with fail);have k0:=fun p:Later wq.heap.size wq=>p.keep (ak bT.out c0);have k1:=fun p:Later wq.heap.size wq=>p.keep (ak bT.out c1);have k2:=fun p:Later wq.heap.size wq=>p.keep (ak bT.out c2);have k3:=fun p:Later wq.heap.size wq=>p.keep (ak bT.out c3);have k4:=fun p:Later wq.heap.size wq=>p.keep (ak bT.out c4);have k5:=fun p:Later wq.heap.size wq=>p.keep (ak bT.out c5);have k6:=fun p:Later wq.heap.size wq=>p.keep (ak bT.out c6);have k7:=fun p:Later wq.heap.size wq=>p.keep (ak bT.out c7);have k8:=fun p:Later wq.heap.size wq=>p.keep (ak bT.out c8);have j0:=fun p:Later wq.heap.size wq=>p.keep (ak bT.out d0);have j1:=fun p:Later wq.heap.size wq=>p.keep (ak bT.out d1);have j2:=fun p:Later wq.heap.size wq=>p.keep (ak bT.out d2);have j3:=fun p:Later wq.heap.size wq=>p.keep (ak bT.out d3);have j4:=fun p:Later wq.heap.size wq=>p.keep (ak bT.out d4);have j5:=fun p:Later wq.heap.size wq=>p.keep (ak bT.out d5);have j6:=fun p:Later wq.heap.size wq=>p.keep (ak bT.out d6);have j7:=fun p:Later wq.heap.size wq=>p.keep (ak bT.out d7);have j8:=fun p:Later wq.heap.size wq=>p.keep (ak bT.out d8);refine fA wq.heap.size (by kernel_rfl) (by kernel_rfl) ?_;(repeat (go_big_quiet_step (first | (go_at_call 108;with_reducible exact Later.call (Nat.le_refl _) (oJ.out _)))));refine wpQuiet_nil ?_;rintro wq2 ⟨q,hq⟩;clear k0 k1 k2 k3 k4 k5 k6 k7 k8 j0 j1 j2 j3 j4 j5 j6 j7 j8 c0 c1 c2 c3 c4 c5 c6 c7 c8 d0 d1 d2 d3 d4 d5 d6 d7 d8;have uM:=hid (show Below wb.heap.size wb wq2 by rw [hq];exact aA f_.out q.low);clear hq q;go_wp2;go_ret;exact ⟨_,rfl,by rw [ku.out];exact (HV.out.keep HB1.out).keep uM.out,HB1.out.trans (uM.out.mono HB1.out.size)⟩}
      · have agr:(r==0)=false:=beq_eq_false_iff_ne.2 hz0;have ku:=hid (show Tm.put L ((n1,t1,x1),(n2,t2,x2),n3,t3,x3)=L.take i++((n1,t1,x1),(n2,t2,x2),n3,t3,x3)::L.drop i from OY (by rw [←HN.out];exact hin) fD.out (fun h=>by rw [←HR.out];omega));(go_upto_region 4 with fail);have k0:=fun p:Later wq.heap.size wq=>p.keep (ak bT.out c0);have k1:=fun p:Later wq.heap.size wq=>p.keep (ak bT.out c1);have k2:=fun p:Later wq.heap.size wq=>p.keep (ak bT.out c2);have k3:=fun p:Later wq.heap.size wq=>p.keep (ak bT.out c3);have k4:=fun p:Later wq.heap.size wq=>p.keep (ak bT.out c4);have k5:=fun p:Later wq.heap.size wq=>p.keep (ak bT.out c5);have k6:=fun p:Later wq.heap.size wq=>p.keep (ak bT.out c6);have k7:=fun p:Later wq.heap.size wq=>p.keep (ak bT.out c7);have k8:=fun p:Later wq.heap.size wq=>p.keep (ak bT.out c8);have j0:=fun p:Later wq.heap.size wq=>p.keep (ak bT.out d0);have j1:=fun p:Later wq.heap.size wq=>p.keep (ak bT.out d1);have j2:=fun p:Later wq.heap.size wq=>p.keep (ak bT.out d2);have j3:=fun p:Later wq.heap.size wq=>p.keep (ak bT.out d3);have j4:=fun p:Later wq.heap.size wq=>p.keep (ak bT.out d4);have j5:=fun p:Later wq.heap.size wq=>p.keep (ak bT.out d5);have j6:=fun p:Later wq.heap.size wq=>p.keep (ak bT.out d6);have j7:=fun p:Later wq.heap.size wq=>p.keep (ak bT.out d7);have j8:=fun p:Later wq.heap.size wq=>p.keep (ak bT.out d8);refine fA wq.heap.size (by kernel_rfl) (by kernel_rfl) ?_;(repeat (go_big_quiet_step (first | (go_at_call 108;with_reducible exact Later.call (Nat.le_refl _) (oJ.out _)))));refine wpQuiet_nil ?_;rintro wq2 ⟨q,hq⟩;clear k0 k1 k2 k3 k4 k5 k6 k7 k8 j0 j1 j2 j3 j4 j5 j6 j7 j8 c0 c1 c2 c3 c4 c5 c6 c7 c8 d0 d1 d2 d3 d4 d5 d6 d7 d8;have aP:=hid (show Below wb.heap.size wb wq2 by rw [hq];exact aA f_.out q.low);have aV:=hid (show aj wq2 w.heap.size [.int .i64 (n1:Nat),str t1,str x1,.int .i64 (n2:Nat),str t2,str x2,.int .i64 (n3:Nat),str t3,str x3] 67 from gZ.out.keep aP.out);have hzb:=gZ.out.lt;clear hq q;obtain ⟨w6,dh⟩:∃ w6,w6=wq2:=⟨_,rfl⟩;rw [←dh] at aP aV ⊢;clear dh;have hic:i<cap:=(by omega);have hA1:i≤cap:=(by omega);have acs:¬ cap=i:=(by omega);have hA2:(i:Int)≤(cap:Int):=(by omega);have hA3:(n:Int)≤(cap:Int):=(by omega);have Gs:(i:Int)≤(n:Int):=(by omega);have lZ:=hid ((HV.out.front i (by omega)).keep HB1.out);have mJ:=hid (show bB wb (.slice (some ⟨bl,off,none⟩) i cap) ((L.take i).map aK) by rw [List.map_take];exact lZ.out);have hlt1:(L.take i).length=i:=(by rw [List.length_take,←HN.out];omega);have jH:=hid (lM mJ.out).2.1;have jI:=hid (show (bK (L.take i)).length=i*9 by rw [uL,hlt1]);have F1:=hid (fun W (hW:Below wb.heap.size wb W)=>(lM (mJ.out.keep hW)).2.2);have h_:=hid (show bB wb (.slice (some ⟨bl,off+i*9,none⟩) (n-i) (cap-i)) ((L.drop i).map aK) by rw [List.map_drop];exact (HV.out.back i (by omega)).keep HB1.out);have rQ:=hid (lM h_.out).2.1;have rR:=hid (show (bK (L.drop i)).length=(n-i)*9 by rw [uL,←(lM h_.out).1]);have F2:=hid (fun W (hW:Below wb.heap.size wb W)=>(lM (h_.out.keep hW)).2.2);have rT:=hid (show 0+i+1+(n-i)=(L.take i++((n1,t1,x1),(n2,t2,x2),n3,t3,x3)::L.drop i).length by have h:=(lM h_.out).1;rw [List.length_append,List.length_cons,hlt1,←h] <;> omega);clear hlt1;obtain ⟨iS,hi0,bH,bI,bJ⟩:=uo;have gM:=aP.out.size;have Gt:=aV.out.lt;have OA:=hid (Gp w6.drew wb.heap.size gM);have HA:=hid (aP.out.drew.alloc gM (.cells #[] 67));have UA:=hid (show aj (w6.drew.alloc (.cells #[] 67)) w.heap.size [.int .i64 (n1:Nat),str t1,str x1,.int .i64 (n2:Nat),str t2,str x2,.int .i64 (n3:Nat),str t3,str x3] 67 from aV.out.alloc _);have OC:=hid (OA.out.alloc (.cells (aK ((n1,t1,x1),(n2,t2,x2),n3,t3,x3)).cells.toArray 67));have HC:=hid (HA.out.alloc HA.out.size (.cells (aK ((n1,t1,x1),(n2,t2,x2),n3,t3,x3)).cells.toArray 67));have UC:=hid (UA.out.alloc (.cells (aK ((n1,t1,x1),(n2,t2,x2),n3,t3,x3)).cells.toArray 67));have TC:=hid (show aj ((w6.drew.alloc (.cells #[] 67)).alloc (.cells (aK ((n1,t1,x1),(n2,t2,x2),n3,t3,x3)).cells.toArray 67)) (w6.heap.size+1) (aK ((n1,t1,x1),(n2,t2,x2),n3,t3,x3)).cells 67 from O9 w6 _ _ _);have mK:=hid (aP.out.drew.alloc gM (.cells (aK ((n1,t1,x1),(n2,t2,x2),n3,t3,x3)).cells.toArray 67));have OE:=hid (show ((w6.drew.alloc (.cells (aK ((n1,t1,x1),(n2,t2,x2),n3,t3,x3)).cells.toArray 67)).alloc (.cells #[] 67)).ownsRow wb.heap.size 67 9 (.slice (some ⟨w6.heap.size+1,0,none⟩) 0 0) 0 [] from OZ w6 wb.heap.size _ gM);have HE:=hid (mK.out.alloc mK.out.size (.cells #[] 67));have UE:=hid (show aj ((w6.drew.alloc (.cells (aK ((n1,t1,x1),(n2,t2,x2),n3,t3,x3)).cells.toArray 67)).alloc (.cells #[] 67)) w.heap.size [.int .i64 (n1:Nat),str t1,str x1,.int .i64 (n2:Nat),str t2,str x2,.int .i64 (n3:Nat),str t3,str x3] 67 from (aV.out.alloc _).alloc _);have TE:=hid (show aj ((w6.drew.alloc (.cells (aK ((n1,t1,x1),(n2,t2,x2),n3,t3,x3)).cells.toArray 67)).alloc (.cells #[] 67)) w6.heap.size (aK ((n1,t1,x1),(n2,t2,x2),n3,t3,x3)).cells 67 from (O7 w6 _).alloc _);have d0:=aV.out.cell (i:=0) rfl;have d1:=aV.out.cell (i:=1) rfl;have d2:=aV.out.cell (i:=2) rfl;have d3:=aV.out.cell (i:=3) rfl;have d4:=aV.out.cell (i:=4) rfl;have d5:=aV.out.cell (i:=5) rfl;have d6:=aV.out.cell (i:=6) rfl;have d7:=aV.out.cell (i:=7) rfl;have d8:=aV.out.cell (i:=8) rfl;(go_upto_region 6 with fail);go_region_law (first
         | (refine dM (by rfl) (.tmp 35) (.tmp 38) 39 (by rfl) wb.heap.size 67 iS _ 9 120 Tryz.underlying39 hi0 bH bI bJ rfl (by decide) (.slice (some ⟨w6.heap.size,0,none⟩) 0 0) 0 [] (by rfl) OA.out (some ⟨bl,off,none⟩) i cap (bK (L.take i)) (by rfl) jH.out jI.out (F1.out _ HA.out) (qx _) ?b1 ?b2 ?b3 ?_
            case b1=>(unfold maxLen;omega)
            case b2=>omega
            case b3=>exact HA.out.size
            intro v1 w1 g1 g2 g3
            have G1:=hid g1
            have bF:=hid (HA.out.grown g2 HA.out.size (fun k hk=>(OA.out.lt k hk).1))
            have aR:=hid (nE UA.out g2 (fun e=>by have:=(OA.out.lt _ e).1;omega))
            have k0:=aR.out.cell (i:=0) rfl
            have k1:=aR.out.cell (i:=1) rfl
            have k2:=aR.out.cell (i:=2) rfl
            have k3:=aR.out.cell (i:=3) rfl
            have k4:=aR.out.cell (i:=4) rfl
            have k5:=aR.out.cell (i:=5) rfl
            have k6:=aR.out.cell (i:=6) rfl
            have k7:=aR.out.cell (i:=7) rfl
            have k8:=aR.out.cell (i:=8) rfl
            clear g1 g2 g3)
         | (refine dM (by rfl) (.tmp 35) (.tmp 38) 39 (by rfl) wb.heap.size 67 iS _ 9 120 Tryz.underlying39 hi0 bH bI bJ rfl (by decide) (.slice (some ⟨w6.heap.size,0,none⟩) 0 0) 0 [] (by rfl) OC.out (some ⟨bl,off,none⟩) i cap (bK (L.take i)) (by rfl) jH.out jI.out (F1.out _ HC.out) (qx _) ?b1 ?b2 ?b3 ?_
            case b1=>(unfold maxLen;omega)
            case b2=>omega
            case b3=>exact HC.out.size
            intro v1 w1 g1 g2 g3
            have G1:=hid g1
            have bF:=hid (HC.out.grown g2 HC.out.size (fun k hk=>(OC.out.lt k hk).1))
            have aR:=hid (nE UC.out g2 (fun e=>by have:=(OC.out.lt _ e).1;omega))
            have rU:=hid (nE TC.out g2 (fun e=>by simp [Value.ownBlock] at e))
            have k0:=aR.out.cell (i:=0) rfl
            have k1:=aR.out.cell (i:=1) rfl
            have k2:=aR.out.cell (i:=2) rfl
            have k3:=aR.out.cell (i:=3) rfl
            have k4:=aR.out.cell (i:=4) rfl
            have k5:=aR.out.cell (i:=5) rfl
            have k6:=aR.out.cell (i:=6) rfl
            have k7:=aR.out.cell (i:=7) rfl
            have k8:=aR.out.cell (i:=8) rfl
            clear g1 g2 g3)
         | (refine dM (by rfl) (.tmp 35) (.tmp 38) 39 (by rfl) wb.heap.size 67 iS _ 9 120 Tryz.underlying39 hi0 bH bI bJ rfl (by decide) (.slice (some ⟨w6.heap.size+1,0,none⟩) 0 0) 0 [] (by rfl) OE.out (some ⟨bl,off,none⟩) i cap (bK (L.take i)) (by rfl) jH.out jI.out (F1.out _ HE.out) (qx _) ?b1 ?b2 ?b3 ?_
            case b1=>(unfold maxLen;omega)
            case b2=>omega
            case b3=>exact HE.out.size
            intro v1 w1 g1 g2 g3
            have G1:=hid g1
            have bF:=hid (HE.out.grown g2 HE.out.size (fun k hk=>(OE.out.lt k hk).1))
            have aR:=hid (nE UE.out g2 (fun e=>by have:=(OE.out.lt _ e).1;omega))
            have ig:=hid (nE TE.out g2 (fun e=>by simp [Value.ownBlock] at e))
            have k0:=aR.out.cell (i:=0) rfl
            have k1:=aR.out.cell (i:=1) rfl
            have k2:=aR.out.cell (i:=2) rfl
            have k3:=aR.out.cell (i:=3) rfl
            have k4:=aR.out.cell (i:=4) rfl
            have k5:=aR.out.cell (i:=5) rfl
            have k6:=aR.out.cell (i:=6) rfl
            have k7:=aR.out.cell (i:=7) rfl
            have k8:=aR.out.cell (i:=8) rfl
            clear g1 g2 g3)
         | (refine dM (by rfl) (.tmp 39) (.tmp 41) 39 (by rfl) wb.heap.size 67 iS _ 9 120 Tryz.underlying39 hi0 bH bI bJ rfl (by decide) v1 (0+i) ([]++(bK (L.take i))) (by rfl) (G1.out.alloc _) (some ⟨w1.heap.size,0,none⟩) 1 1 (aK ((n1,t1,x1),(n2,t2,x2),n3,t3,x3)).cells (by rfl) (fun h=>by cases h) rfl (F9 w1 ((n1,t1,x1),(n2,t2,x2),n3,t3,x3)) (oG ((n1,t1,x1),(n2,t2,x2),n3,t3,x3)) ?b1 ?b2 ?b3 ?_
            case b1=>(unfold maxLen;omega)
            case b2=>omega
            case b3=>exact (bF.out.alloc bF.out.size _).size
            intro v2 w2 g1 g2 g3
            have G2:=hid g1
            have eP:=hid ((bF.out.alloc bF.out.size _).grown g2 (bF.out.alloc bF.out.size _).size (fun k hk=>(G1.out.lt k hk).1))
            clear g1 g2 g3)
         | (refine dM (by rfl) (.tmp 39) (.tmp 41) 39 (by rfl) wb.heap.size 67 iS _ 9 120 Tryz.underlying39 hi0 bH bI bJ rfl (by decide) v1 (0+i) ([]++(bK (L.take i))) (by rfl) G1.out (some ⟨w6.heap.size+1,0,none⟩) 1 1 (aK ((n1,t1,x1),(n2,t2,x2),n3,t3,x3)).cells (by rfl) (fun h=>by cases h) rfl (Bq rU.out) (oG ((n1,t1,x1),(n2,t2,x2),n3,t3,x3)) ?b1 ?b2 ?b3 ?_
            case b1=>(unfold maxLen;omega)
            case b2=>omega
            case b3=>exact bF.out.size
            intro v2 w2 g1 g2 g3
            have G2:=hid g1
            have eP:=hid (bF.out.grown g2 bF.out.size (fun k hk=>(G1.out.lt k hk).1))
            clear g1 g2 g3)
         | (refine dM (by rfl) (.tmp 39) (.tmp 41) 39 (by rfl) wb.heap.size 67 iS _ 9 120 Tryz.underlying39 hi0 bH bI bJ rfl (by decide) v1 (0+i) ([]++(bK (L.take i))) (by rfl) G1.out (some ⟨w6.heap.size,0,none⟩) 1 1 (aK ((n1,t1,x1),(n2,t2,x2),n3,t3,x3)).cells (by rfl) (fun h=>by cases h) rfl (Bq ig.out) (oG ((n1,t1,x1),(n2,t2,x2),n3,t3,x3)) ?b1 ?b2 ?b3 ?_
            case b1=>(unfold maxLen;omega)
            case b2=>omega
            case b3=>exact bF.out.size
            intro v2 w2 g1 g2 g3
            have G2:=hid g1
            have eP:=hid (bF.out.grown g2 bF.out.size (fun k hk=>(G1.out.lt k hk).1))
            clear g1 g2 g3)
         | (refine dM (by rfl) (.tmp 42) (.tmp 45) 39 (by rfl) wb.heap.size 67 iS _ 9 120 Tryz.underlying39 hi0 bH bI bJ rfl (by decide) v2 (0+i+1) (([]++(bK (L.take i)))++(aK ((n1,t1,x1),(n2,t2,x2),n3,t3,x3)).cells) (by rfl) G2.out (some ⟨bl,off+i*9,none⟩) (n-i) (cap-i) (bK (L.drop i)) (by rfl) rQ.out rR.out (F2.out _ eP.out) (qx _) ?b1 ?b2 ?b3 ?_
            case b1=>(unfold maxLen;omega)
            case b2=>omega
            case b3=>exact eP.out.size
            intro v3 w3 g1 g2 g3
            have G3:=hid g1
            have rV:=hid (eP.out.grown g2 eP.out.size (fun k hk=>(G2.out.lt k hk).1))
            clear g1 g2 g3)
         | fail)
        all_goals
         have kQ:=hid (O_ (L:=L) (t:=((n1,t1,x1),(n2,t2,x2),n3,t3,x3)) (i:=i) G3.out rT.out)
         go_wp2
         go_ret
         exact ⟨v3,rfl,by rw [ku.out];exact kQ.out,HB1.out.trans (rV.out.mono HB1.out.size)⟩
  · obtain rfl:i=n:=(by omega);have hltz:¬ (i:Int)<(i:Int):=(by omega);have Gq:decide ((i:Int)<(i:Int))=false:=decide_eq_false hltz;have ku:=hid (show Tm.put L ((n1,t1,x1),(n2,t2,x2),n3,t3,x3)=L.take i++((n1,t1,x1),(n2,t2,x2),n3,t3,x3)::L.drop i from OY (by rw [←HN.out];exact hin) fD.out (fun h=>by have:=HN.out;omega));(go_upto_region 2 with fail);refine fA wr.heap.size (by kernel_rfl) (by kernel_rfl) ?_;(repeat (go_big_quiet_step (first | fail)));refine wpQuiet_nil ?_;rintro wq ⟨q,hq⟩;have f_:=hid (show Below wb.heap.size wb wq by rw [hq];exact aA HB.out q.low);clear hq q;(go_upto_region 4 with fail);refine fA wq.heap.size (by kernel_rfl) (by kernel_rfl) ?_;(repeat (go_big_quiet_step (first | fail)));refine wpQuiet_nil ?_;rintro wq2 ⟨q,hq⟩;have aP:=hid (show Below wb.heap.size wb wq2 by rw [hq];exact aA f_.out q.low);have aV:=hid (show aj wq2 w.heap.size [.int .i64 (n1:Nat),str t1,str x1,.int .i64 (n2:Nat),str t2,str x2,.int .i64 (n3:Nat),str t3,str x3] 67 from gZ.out.keep aP.out);have hzb:=gZ.out.lt;clear hq q;obtain ⟨w6,dh⟩:∃ w6,w6=wq2:=⟨_,rfl⟩;rw [←dh] at aP aV ⊢;clear dh;have hde:(L.drop i).map aK=[]:=(by rw [List.drop_eq_nil_of_le (by rw [←HN.out];exact Nat.le_refl _)];rfl);obtain ⟨fa,fc,ba,bc,hS1,hS2,Gu,hB0⟩:∃ (fa:Option Addr) (fc:Nat) (ba:Option Addr) (bc:Nat),(∀ W,(Instr.sliceAt 39 (.slice a i cap) none (some (.int .i64 (i:Int))) none).run Tryz.prog W=.ok (.slice fa i fc) W)∧(∀ W,(Instr.sliceAt 39 (.slice a i cap) (some (.int .i64 (i:Int))) none none).run Tryz.prog W=.ok (.slice ba 0 bc) W)∧bB wb (.slice fa i fc) ((L.take i).map aK)∧bB wb (.slice ba 0 bc) ((L.drop i).map aK):=(by have hA1:(i:Int)≤(cap:Int):=(by omega);have oK:∀ x c,c≤maxLen→(x=none→c=0)→bB wb (.slice x 0 c) ((L.drop i).map aK):=fun x c h1 h2=>(by rw [hde];exact ⟨_,_,rfl,Nat.zero_le _,h1,h2,.inl rfl⟩);have lN:bB wb (.slice a i cap) ((L.take i).map aK):=(by rw [List.map_take];exact (HV.out.front i (by omega)).keep HB1.out);have hz0:(0:Nat)≤maxLen:=(by unfold maxLen;omega);rcases Nat.eq_zero_or_pos i with oL | oL;{subst oL;rcases a with _ | ad;{obtain rfl:cap=0:=hc3 rfl;exact ⟨none,0,none,0,fun W=>by simp [go_sem],fun W=>by simp [go_sem],lN,oK _ _ hz0 (fun _=>rfl)⟩};{exact ⟨some ad,cap,some ad,cap,fun W=>by simp [go_sem],fun W=>by simp [go_sem],lN,oK _ _ (by omega) (fun h=>by cases h)⟩}};{obtain ⟨bl,off,rfl,hrow⟩:=HV.out.get (i:=0) (by first | (rw [List.length_map,←HN.out];exact oL) | (rw [←HN.out];exact oL));clear hrow;by_cases hck:cap=i;{subst hck;exact ⟨some ⟨bl,off,none⟩,cap,some ⟨bl,off,none⟩,0,fun W=>by simp [go_sem],fun W=>by simp [go_sem],lN,oK _ _ hz0 (fun h=>by cases h)⟩};{have Gv:¬ cap-i=0:=(by omega);exact ⟨some ⟨bl,off,none⟩,cap,some ⟨bl,off+i*9,none⟩,cap-i,fun W=>by simp [go_sem,hA1],fun W=>by simp [go_sem,hA1,hck,Gv],lN,oK _ _ (by omega) (fun h=>by cases h)⟩}});obtain ⟨v0,hv0⟩:∃ v0,v0=Value.slice a i cap:=⟨_,rfl⟩;rw [←hv0] at hS1 hS2 ⊢;clear hv0;have hA2:(i:Int)≤(cap:Int):=(by omega);have mJ:=hid Gu;have hlt1:(L.take i).length=i:=(by rw [List.length_take,←HN.out];omega);have jH:=hid (lM mJ.out).2.1;have jI:=hid (show (bK (L.take i)).length=i*9 by rw [uL,hlt1]);have F1:=hid (fun W (hW:Below wb.heap.size wb W)=>(lM (mJ.out.keep hW)).2.2);have h_:=hid hB0;have rQ:=hid (lM h_.out).2.1;have rR:=hid (show (bK (L.drop i)).length=0*9 by rw [uL,←(lM h_.out).1]);have F2:=hid (fun W (hW:Below wb.heap.size wb W)=>(lM (h_.out.keep hW)).2.2);have rT:=hid (show 0+i+1+0=(L.take i++((n1,t1,x1),(n2,t2,x2),n3,t3,x3)::L.drop i).length by have h:=(lM h_.out).1;rw [List.length_append,List.length_cons,hlt1,←h] <;> omega);clear hlt1;obtain ⟨iS,hi0,bH,bI,bJ⟩:=uo;have gM:=aP.out.size;have Gt:=aV.out.lt;have OA:=hid (Gp w6.drew wb.heap.size gM);have HA:=hid (aP.out.drew.alloc gM (.cells #[] 67));have UA:=hid (show aj (w6.drew.alloc (.cells #[] 67)) w.heap.size [.int .i64 (n1:Nat),str t1,str x1,.int .i64 (n2:Nat),str t2,str x2,.int .i64 (n3:Nat),str t3,str x3] 67 from aV.out.alloc _);have OC:=hid (OA.out.alloc (.cells (aK ((n1,t1,x1),(n2,t2,x2),n3,t3,x3)).cells.toArray 67));have HC:=hid (HA.out.alloc HA.out.size (.cells (aK ((n1,t1,x1),(n2,t2,x2),n3,t3,x3)).cells.toArray 67));have UC:=hid (UA.out.alloc (.cells (aK ((n1,t1,x1),(n2,t2,x2),n3,t3,x3)).cells.toArray 67));have TC:=hid (show aj ((w6.drew.alloc (.cells #[] 67)).alloc (.cells (aK ((n1,t1,x1),(n2,t2,x2),n3,t3,x3)).cells.toArray 67)) (w6.heap.size+1) (aK ((n1,t1,x1),(n2,t2,x2),n3,t3,x3)).cells 67 from O9 w6 _ _ _);have mK:=hid (aP.out.drew.alloc gM (.cells (aK ((n1,t1,x1),(n2,t2,x2),n3,t3,x3)).cells.toArray 67));have OE:=hid (show ((w6.drew.alloc (.cells (aK ((n1,t1,x1),(n2,t2,x2),n3,t3,x3)).cells.toArray 67)).alloc (.cells #[] 67)).ownsRow wb.heap.size 67 9 (.slice (some ⟨w6.heap.size+1,0,none⟩) 0 0) 0 [] from OZ w6 wb.heap.size _ gM);have HE:=hid (mK.out.alloc mK.out.size (.cells #[] 67));have UE:=hid (show aj ((w6.drew.alloc (.cells (aK ((n1,t1,x1),(n2,t2,x2),n3,t3,x3)).cells.toArray 67)).alloc (.cells #[] 67)) w.heap.size [.int .i64 (n1:Nat),str t1,str x1,.int .i64 (n2:Nat),str t2,str x2,.int .i64 (n3:Nat),str t3,str x3] 67 from (aV.out.alloc _).alloc _);have TE:=hid (show aj ((w6.drew.alloc (.cells (aK ((n1,t1,x1),(n2,t2,x2),n3,t3,x3)).cells.toArray 67)).alloc (.cells #[] 67)) w6.heap.size (aK ((n1,t1,x1),(n2,t2,x2),n3,t3,x3)).cells 67 from (O7 w6 _).alloc _);have d0:=aV.out.cell (i:=0) rfl;have d1:=aV.out.cell (i:=1) rfl;have d2:=aV.out.cell (i:=2) rfl;have d3:=aV.out.cell (i:=3) rfl;have d4:=aV.out.cell (i:=4) rfl;have d5:=aV.out.cell (i:=5) rfl;have d6:=aV.out.cell (i:=6) rfl;have d7:=aV.out.cell (i:=7) rfl;have d8:=aV.out.cell (i:=8) rfl;(go_upto_region 6 with fail);go_region_law (first
     | (refine dM (by rfl) (.tmp 35) (.tmp 38) 39 (by rfl) wb.heap.size 67 iS _ 9 120 Tryz.underlying39 hi0 bH bI bJ rfl (by decide) (.slice (some ⟨w6.heap.size,0,none⟩) 0 0) 0 [] (by rfl) OA.out fa i fc (bK (L.take i)) (by rfl) jH.out jI.out (F1.out _ HA.out) (qx _) ?b1 ?b2 ?b3 ?_
        case b1=>(unfold maxLen;omega)
        case b2=>omega
        case b3=>exact HA.out.size
        intro v1 w1 g1 g2 g3
        have G1:=hid g1
        have bF:=hid (HA.out.grown g2 HA.out.size (fun k hk=>(OA.out.lt k hk).1))
        have aR:=hid (nE UA.out g2 (fun e=>by have:=(OA.out.lt _ e).1;omega))
        have k0:=aR.out.cell (i:=0) rfl
        have k1:=aR.out.cell (i:=1) rfl
        have k2:=aR.out.cell (i:=2) rfl
        have k3:=aR.out.cell (i:=3) rfl
        have k4:=aR.out.cell (i:=4) rfl
        have k5:=aR.out.cell (i:=5) rfl
        have k6:=aR.out.cell (i:=6) rfl
        have k7:=aR.out.cell (i:=7) rfl
        have k8:=aR.out.cell (i:=8) rfl
        clear g1 g2 g3)
     | (refine dM (by rfl) (.tmp 35) (.tmp 38) 39 (by rfl) wb.heap.size 67 iS _ 9 120 Tryz.underlying39 hi0 bH bI bJ rfl (by decide) (.slice (some ⟨w6.heap.size,0,none⟩) 0 0) 0 [] (by rfl) OC.out fa i fc (bK (L.take i)) (by rfl) jH.out jI.out (F1.out _ HC.out) (qx _) ?b1 ?b2 ?b3 ?_
        case b1=>(unfold maxLen;omega)
        case b2=>omega
        case b3=>exact HC.out.size
        intro v1 w1 g1 g2 g3
        have G1:=hid g1
        have bF:=hid (HC.out.grown g2 HC.out.size (fun k hk=>(OC.out.lt k hk).1))
        have aR:=hid (nE UC.out g2 (fun e=>by have:=(OC.out.lt _ e).1;omega))
        have rU:=hid (nE TC.out g2 (fun e=>by simp [Value.ownBlock] at e))
        have k0:=aR.out.cell (i:=0) rfl
        have k1:=aR.out.cell (i:=1) rfl
        have k2:=aR.out.cell (i:=2) rfl
        have k3:=aR.out.cell (i:=3) rfl
        have k4:=aR.out.cell (i:=4) rfl
        have k5:=aR.out.cell (i:=5) rfl
        have k6:=aR.out.cell (i:=6) rfl
        have k7:=aR.out.cell (i:=7) rfl
        have k8:=aR.out.cell (i:=8) rfl
        clear g1 g2 g3)
     | (refine dM (by rfl) (.tmp 35) (.tmp 38) 39 (by rfl) wb.heap.size 67 iS _ 9 120 Tryz.underlying39 hi0 bH bI bJ rfl (by decide) (.slice (some ⟨w6.heap.size+1,0,none⟩) 0 0) 0 [] (by rfl) OE.out fa i fc (bK (L.take i)) (by rfl) jH.out jI.out (F1.out _ HE.out) (qx _) ?b1 ?b2 ?b3 ?_
        case b1=>(unfold maxLen;omega)
        case b2=>omega
        case b3=>exact HE.out.size
        intro v1 w1 g1 g2 g3
        have G1:=hid g1
        have bF:=hid (HE.out.grown g2 HE.out.size (fun k hk=>(OE.out.lt k hk).1))
        have aR:=hid (nE UE.out g2 (fun e=>by have:=(OE.out.lt _ e).1;omega))
        have ig:=hid (nE TE.out g2 (fun e=>by simp [Value.ownBlock] at e))
        have k0:=aR.out.cell (i:=0) rfl
        have k1:=aR.out.cell (i:=1) rfl
        have k2:=aR.out.cell (i:=2) rfl
        have k3:=aR.out.cell (i:=3) rfl
        have k4:=aR.out.cell (i:=4) rfl
        have k5:=aR.out.cell (i:=5) rfl
        have k6:=aR.out.cell (i:=6) rfl
        have k7:=aR.out.cell (i:=7) rfl
        have k8:=aR.out.cell (i:=8) rfl
        clear g1 g2 g3)
     | (refine dM (by rfl) (.tmp 39) (.tmp 41) 39 (by rfl) wb.heap.size 67 iS _ 9 120 Tryz.underlying39 hi0 bH bI bJ rfl (by decide) v1 (0+i) ([]++(bK (L.take i))) (by rfl) (G1.out.alloc _) (some ⟨w1.heap.size,0,none⟩) 1 1 (aK ((n1,t1,x1),(n2,t2,x2),n3,t3,x3)).cells (by rfl) (fun h=>by cases h) rfl (F9 w1 ((n1,t1,x1),(n2,t2,x2),n3,t3,x3)) (oG ((n1,t1,x1),(n2,t2,x2),n3,t3,x3)) ?b1 ?b2 ?b3 ?_
        case b1=>(unfold maxLen;omega)
        case b2=>omega
        case b3=>exact (bF.out.alloc bF.out.size _).size
        intro v2 w2 g1 g2 g3
        have G2:=hid g1
        have eP:=hid ((bF.out.alloc bF.out.size _).grown g2 (bF.out.alloc bF.out.size _).size (fun k hk=>(G1.out.lt k hk).1))
        clear g1 g2 g3)
     | (refine dM (by rfl) (.tmp 39) (.tmp 41) 39 (by rfl) wb.heap.size 67 iS _ 9 120 Tryz.underlying39 hi0 bH bI bJ rfl (by decide) v1 (0+i) ([]++(bK (L.take i))) (by rfl) G1.out (some ⟨w6.heap.size+1,0,none⟩) 1 1 (aK ((n1,t1,x1),(n2,t2,x2),n3,t3,x3)).cells (by rfl) (fun h=>by cases h) rfl (Bq rU.out) (oG ((n1,t1,x1),(n2,t2,x2),n3,t3,x3)) ?b1 ?b2 ?b3 ?_
        case b1=>(unfold maxLen;omega)
        case b2=>omega
        case b3=>exact bF.out.size
        intro v2 w2 g1 g2 g3
        have G2:=hid g1
        have eP:=hid (bF.out.grown g2 bF.out.size (fun k hk=>(G1.out.lt k hk).1))
        clear g1 g2 g3)
     | (refine dM (by rfl) (.tmp 39) (.tmp 41) 39 (by rfl) wb.heap.size 67 iS _ 9 120 Tryz.underlying39 hi0 bH bI bJ rfl (by decide) v1 (0+i) ([]++(bK (L.take i))) (by rfl) G1.out (some ⟨w6.heap.size,0,none⟩) 1 1 (aK ((n1,t1,x1),(n2,t2,x2),n3,t3,x3)).cells (by rfl) (fun h=>by cases h) rfl (Bq ig.out) (oG ((n1,t1,x1),(n2,t2,x2),n3,t3,x3)) ?b1 ?b2 ?b3 ?_
        case b1=>(unfold maxLen;omega)
        case b2=>omega
        case b3=>exact bF.out.size
        intro v2 w2 g1 g2 g3
        have G2:=hid g1
        have eP:=hid (bF.out.grown g2 bF.out.size (fun k hk=>(G1.out.lt k hk).1))
        clear g1 g2 g3)
     | (refine dM (by rfl) (.tmp 42) (.tmp 45) 39 (by rfl) wb.heap.size 67 iS _ 9 120 Tryz.underlying39 hi0 bH bI bJ rfl (by decide) v2 (0+i+1) (([]++(bK (L.take i)))++(aK ((n1,t1,x1),(n2,t2,x2),n3,t3,x3)).cells) (by rfl) G2.out ba 0 bc (bK (L.drop i)) (by rfl) rQ.out rR.out (F2.out _ eP.out) (qx _) ?b1 ?b2 ?b3 ?_
        case b1=>(unfold maxLen;omega)
        case b2=>omega
        case b3=>exact eP.out.size
        intro v3 w3 g1 g2 g3
        have G3:=hid g1
        have rV:=hid (eP.out.grown g2 eP.out.size (fun k hk=>(G2.out.lt k hk).1))
        clear g1 g2 g3)
     | fail)
    all_goals
     have kQ:=hid (O_ (L:=L) (t:=((n1,t1,x1),(n2,t2,x2),n3,t3,x3)) (i:=i) G3.out rT.out)
     go_wp2
     go_ret
     exact ⟨v3,rfl,by rw [ku.out];exact kQ.out,HB1.out.trans (rV.out.mono HB1.out.size)⟩
theorem acu {L:List TR} {i:Nat} (hi:i<L.length):Tm.dJ (L.take (i+1))=Tm.put (Tm.dJ (L.take i)) L[i]:=by rw [List.take_add_one,List.getElem?_eq_getElem hi];unfold Tm.dJ;rw [List.foldl_append];rfl
theorem acv (L:List TR) (hl:∀ t∈L,Tm.aN t=true) (hn:L.length≤100000) (w:World) (v:Value) (hv:bB w v (L.map aK)) :
  Calls Tryz.prog 23 #[v] w fun e w'=>∃ v',e=.returned v'∧bB w' v' ((Tm.dJ L).map aK)∧Below w.heap.size w w':=by
 obtain ⟨a,cap,rfl,hc1,hc2,hc3⟩:=hv.open;have HV:=hid hv;have HL:=hid hl;rw [List.length_map] at HV ⊢;obtain ⟨n,hn0⟩:∃ n,n=L.length:=⟨_,rfl⟩;rw [←hn0] at HV hn ⊢;have HN:=hid hn0;clear hv hl hc1 hc2 hc3 hn0;go_enter Tryz.func23,Tryz.ntmps23;go_wp2;go_loopg [3,4] n (fun gk s3 s4 wr=>∃ (i:Nat),s4=.int .i64 i∧i≤n∧n-i≤gk∧Hid (Below w.heap.size w wr)∧Hid (bB wr s3 ((Tm.dJ (L.take i)).map aK)))
 case atStart=>exact ⟨0,rfl,Nat.zero_le _,Nat.le_refl _,Below.refl _ _,bB.nil w⟩
 case round=>
  obtain ⟨i,rfl,hin,hg,HB,HO⟩:=hrel;by_cases hlt:i<n
  · have hltz:(i:Int)<(n:Int):=(by omega);have aZ:i<L.length:=(by rw [←HN.out];exact hlt);have HT1:=hid (HL.out L[i] (List.getElem_mem aZ));have gD:=hid (HV.out.keep HB.out);obtain ⟨bl,off,rfl,hrow⟩:=gD.out.get (i:=i) (by rw [List.length_map];exact aZ);have HRW:=hid (hrow i (by rw [List.length_map];exact aZ));rw [List.getElem_map] at HRW;have iP:=hid (acu aZ);obtain ⟨t,ht⟩:∃ t,t=L[i]:=⟨_,rfl⟩;rw [←ht] at HT1 HRW iP;have PT:=hid (acr (Tm.dJ (L.take i)) (Tm.DK (fun s hs=>HL.out s (List.mem_of_mem_take hs))) (by have h1:=Tm.DR (L.take i);rw [List.length_take] at h1;omega) t HT1.out wr u3 HO.out);clear ht hrow;obtain ⟨⟨n1,t1,x1⟩,⟨n2,t2,x2⟩,n3,t3,x3⟩:=t;have c0:=HRW.out 0 (by omega);have c1:=HRW.out 1 (by omega);have c2:=HRW.out 2 (by omega);have c3:=HRW.out 3 (by omega);have c4:=HRW.out 4 (by omega);have c5:=HRW.out 5 (by omega);have c6:=HRW.out 6 (by omega);have c7:=HRW.out 7 (by omega);have c8:=HRW.out 8 (by omega);simp only [aK,bL.cells,List.getElem?_cons_zero,List.getElem?_cons_succ,Nat.add_zero] at c0 c1 c2 c3 c4 c5 c6 c7 c8;(go_wp2_with fail);refine PT.out.mono ?_;rintro e w2 ⟨v2,rfl,hv2,hlow⟩;have HB2:=hid (aA HB.out hlow);have dI:=hid hv2;clear hv2 hlow;go_wp2;go_roundg (n-(i+1))
    (case measure=>omega);case rel=>exact ⟨i+1,by go_num,by omega,by omega,HB2.out,by show bB _ _ _;rw [iP.out];exact dI.out⟩
  {obtain rfl:i=n:=(by omega);have hltz:¬ (i:Int)<(i:Int):=(by omega);have HE:=hid (show L.take i=L by rw [HN.out];exact List.take_length);rw [HE.out] at HO;go_wp2;go_ret;exact ⟨_,rfl,HO.out,HB.out⟩}
theorem acw (k1:Int) (t1 x1:List UInt8) (k2:Int) (t2 x2:List UInt8) (k3:Int) (t3 x3:List UInt8) (w:World) :
  (binOp .neq 67 (dQ k1 t1 x1 k2 t2 x2 k3 t3 x3) (dQ k1 t1 x1 k2 t2 x2 k3 t3 x3)).run Tryz.prog w=.ok (.bool false) w:=by simp [go_sem]
theorem acy (L:List bL) (w:World) (v1 v2:Value) (h1:bB w v1 L) (h2:bB w v2 L) (hn:L.length≤100000) :
  Calls Tryz.prog 41 #[v1,v2] w fun e w'=>e=.returned (.bool true)∧∃ q,w'=w.drewN q:=by
 obtain ⟨a,cap,rfl,_⟩:=h1.open;obtain ⟨b,cap2,rfl,_⟩:=h2.open;have HV:=hid h1;have HW:=hid h2;obtain ⟨n,hn0⟩:∃ n,n=L.length:=⟨_,rfl⟩;rw [←hn0] at HV HW hn ⊢;have HN:=hid hn0;clear h1 h2 hn0;go_enter Tryz.func41,Tryz.ntmps41;go_wp2;go_loopg [5] n (fun gk s5 wr=>∃ (i:Nat),s5=.int .i64 i∧i≤n∧n-i≤gk∧∃ m,wr=w.drewN m)
 case atStart=>exact ⟨0,rfl,Nat.zero_le _,Nat.le_refl _,0,rfl⟩
 case round=>
  obtain ⟨i,rfl,hin,hg,m,rfl⟩:=hrel;by_cases hlt:i<n
  · have hltz:(i:Int)<(n:Int):=(by omega);have aZ:i<L.length:=(by rw [←HN.out];exact hlt);obtain ⟨bl,off,rfl,hrow⟩:=HV.out.get (i:=i) aZ;obtain ⟨bm,ofm,rfl,hrow2⟩:=HW.out.get (i:=i) aZ;have HRW:=hid (hrow i aZ);have nG:=hid (hrow2 i aZ);clear hrow hrow2;obtain ⟨t,ht⟩:∃ t,t=L[i]:=⟨_,rfl⟩;rw [←ht] at HRW nG;clear ht;obtain ⟨k1,t1,x1,k2,t2,x2,k3,t3,x3⟩:=t;have EQ:=fun W=>acw k1 t1 x1 k2 t2 x2 k3 t3 x3 W;have c0:=HRW.out 0 (by omega);have c1:=HRW.out 1 (by omega);have c2:=HRW.out 2 (by omega);have c3:=HRW.out 3 (by omega);have c4:=HRW.out 4 (by omega);have c5:=HRW.out 5 (by omega);have c6:=HRW.out 6 (by omega);have c7:=HRW.out 7 (by omega);have c8:=HRW.out 8 (by omega);have d0:=nG.out 0 (by omega);have d1:=nG.out 1 (by omega);have d2:=nG.out 2 (by omega);have d3:=nG.out 3 (by omega);have d4:=nG.out 4 (by omega);have d5:=nG.out 5 (by omega);have d6:=nG.out 6 (by omega);have d7:=nG.out 7 (by omega);have d8:=nG.out 8 (by omega);simp only [bL.cells,List.getElem?_cons_zero,List.getElem?_cons_succ,Nat.add_zero] at c0 c1 c2 c3 c4 c5 c6 c7 c8 d0 d1 d2 d3 d4 d5 d6 d7 d8;go_wp2;(go_quiet (fail));go_wp2;go_roundg (n-(i+1))
    (case measure=>omega);case rel=>exact ⟨i+1,by go_num,by omega,by omega,_,rfl⟩
  {obtain rfl:i=n:=(by omega);have hltz:¬ (i:Int)<(i:Int):=(by omega);go_wp2;go_ret;exact ⟨rfl,_,rfl⟩}
end Go.Proofs.YtjaebndajhppgaaGreatDoor
