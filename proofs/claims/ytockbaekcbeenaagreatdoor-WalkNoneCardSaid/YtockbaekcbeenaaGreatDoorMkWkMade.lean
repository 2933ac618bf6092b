/-WkMade-/
import Derived.Test.YtockbaekcbeenaaGreatDoorMkHd1
import Derived.Test.YtockbaekcbeenaaGreatDoorMkSoIsW
import Derived.Test.YtockbaekcbeenaaGreatDoorMkGPar
import Derived.Test.YtockbaekcbeenaaGreatDoorMkSoOf
import Derived.Test.YtockbaekcbeenaaGreatDoorMkSoLaw
import Derived.Test.YtockbaekcbeenaaGreatDoorMkGPut2
set_option linter.unusedVariables false
set_option linter.unusedSimpArgs false
set_option maxRecDepth 100000
set_option maxHeartbeats 4000000
namespace Go.Proofs.YtockbaekcbeenaaGreatDoor.Tm
theorem agR {t:TT} (h:bf t=true):(gN t).length≤760:=by obtain ⟨_,_,a1,a2,a3⟩:=rR h;have b1:=(iV a1).1;have b2:=(iV a2).1;have b3:=(iV a3).1;unfold gN;simp only [List.length_append,List.length_cons,List.length_nil];omega
theorem Vi:∀ {L:List TT},(∀ t∈L,bf t=true)→(jv L).length≤761*L.length
 | [],_=>by simp [jv]
 | t::L,h=>by
  have h1:=agR (h t aH)
  have h2:=Vi (L:=L) (fun s hs=>h s (by simp [hs]))
  rw [Qs]
  simp only [List.length_append,List.length_cons]
  omega
end Go.Proofs.YtockbaekcbeenaaGreatDoor.Tm
namespace Go.Proofs.YtockbaekcbeenaaGreatDoor
open Go.Proofs.Tryz
open Go.ChangeShapes Go.WideShapes Go.ChangeAt Go.RowKit
theorem MP {W W':World} {p:Nat} {L:List TR} (h:Cn W p L) (hb:Below W.heap.size W W'):Cn W' p L:=by obtain ⟨vt,ve,vs,vi,h1,h2,h3,h4,h5⟩:=h;exact ⟨vt,ve,vs,vi,h1.keep hb,h2.keep hb,h3.keep hb,h4.keep hb,h5.keep hb⟩
theorem agS (t:dD):t.is=dX t.k1 t.t1 t.x1 t.k2 t.t2 t.x2 t.k3 t.t3 t.x3:=rfl
def agT (L:List dD) (w:World) (e:Ending) (w':World):Prop:=
 (e=.returned (.tuple #[.pointer none,.pointer none])∨∃ M:List TR,L=M.map aY∧(∀ t∈M,Tm.bf t=true)∧M.length≤25∧(So.terms (Tm.eH M)).length≤30 ∧
   ∃ s p,e=.returned (.tuple #[.pointer (some ⟨s,0,none⟩),.pointer (some ⟨p,0,none⟩)])∧ji w' s (Tm.eH M)∧Cn w' p (Tm.eH M))∧Below w.heap.size w w'
theorem agU (L:List dD) (w:World) (v:Value) (hv:b_ w v L) (hlow:∀ t∈L,t.low 1000000000000000) (hn:L.length≤140737488351232) (hV:d9 w) (hE:cu w) :
  Calls prog 12 #[v] w (agT L w):=by
 have LI:=aj (fun (a:dD) (W:World) l1 l2 l3 l4 l5 l6 hV=>agI a.k1 a.t1 a.x1 a.k2 a.t2 a.x2 a.k3 a.t3 a.x3 W l1 l2 l3 l4 l5 l6 hV);obtain ⟨a,cap,rfl,hc1,hc2,hc3⟩:=hv.open;have HV:=aj hv;have G7:=aj hV;have HE:=aj hE;have HL:=aj hlow;obtain ⟨n,hn0⟩:=aC L.length;rw [←hn0] at HV hn ⊢;have HN:=aj hn0;clear hv hlow hc1 hc2 hc3 hn0 hV hE;by_cases h25:n≤25
 · have agV:¬ (25:Int)<(n:Int):=ay;go_enter func12,ntmps12;go_wp2;go_loopg [4] n (fun gk s4 wr=>∃ (i:Nat),s4=.int .i64 i∧i≤n∧n-i≤gk∧Hid (Below w.heap.size w wr)∧Hid (yS (L.take i)=true))
   (case atStart=>exact ⟨0,rfl,Nat.zero_le _,Nat.le_refl _,Below.refl _ _,aj rfl⟩);case round=>
    obtain ⟨i,rfl,hin,hg,HB,zk⟩:=hrel;by_cases hlt:i<n
    · have hltz:(i:Int)<(n:Int):=ay;have dz:i<L.length:=(by rw [←HN.out];exact hlt);have jB:=aj (HV.out.keep HB.out);obtain ⟨bl,off,rfl,hrow⟩:=jB.out.get (i:=i) dz;have HRW:=aj (hrow i dz);have uO:=aj (show L[i].is=true→yS (L.take (i+1))=true from fun h=>by have h2:=zk.out;unfold yS at h2 ⊢;rw [List.take_succ_eq_append_getElem dz,List.all_append,h2];simp [h]);have hlo:=HL.out L[i] (List.getElem_mem dz);generalize L[i]=t at HRW hlo uO;have gX:=aj hlo;obtain ⟨k1,t1,x1,k2,t2,x2,k3,t3,x3⟩:=t;obtain ⟨l1,l2,l3,l4,l5,l6⟩:=hlo;simp only at l1 l2 l3 l4 l5 l6;have Vj:=aj (LI.out ⟨k1,t1,x1,k2,t2,x2,k3,t3,x3⟩);clear hrow;have c0:=HRW.out 0 ay;have c1:=HRW.out 1 ay;have c2:=HRW.out 2 ay;have c3:=HRW.out 3 ay;have c4:=HRW.out 4 ay;have c5:=HRW.out 5 ay;have c6:=HRW.out 6 ay;have c7:=HRW.out 7 ay;have c8:=HRW.out 8 ay;simp only [dD.cells,List.getElem?_cons_zero,List.getElem?_cons_succ,Nat.add_zero] at c0 c1 c2 c3 c4 c5 c6 c7 c8;obtain ⟨z2,hz2⟩:∃ z2:Int,z2=(t1.length:Int)+t2.length+t3.length+x3.length:=⟨_,rfl⟩;have w1:IntKind.i64.wrap ((t1.length:Int)+(t2.length:Int))=(t1.length:Int)+t2.length:=(by rw [IntKind.wrap_i64];omega);have w2:IntKind.i64.wrap ((t1.length:Int)+(t2.length:Int)+(t3.length:Int))=(t1.length:Int)+t2.length+t3.length:=(by rw [IntKind.wrap_i64];omega);have w3:IntKind.i64.wrap ((t1.length:Int)+(t2.length:Int)+(t3.length:Int)+(x3.length:Int))=z2:=(by rw [IntKind.wrap_i64];omega);clear hz2;obtain ⟨b,hb⟩:=aC (dX k1 t1 x1 k2 t2 x2 k3 t3 x3);have HBI:=aj hb;have G8:=aj (fun (W:World) (hB:Below w.heap.size w W)=>Vj.out W gX.out.1 gX.out.2.1 gX.out.2.2.1 gX.out.2.2.2.1 gX.out.2.2.2.2.1 gX.out.2.2.2.2.2 (G7.out.keep hB));simp only at G8;rw [←hb] at G8;clear hb Vj l1 l2 l3 l4 l5 l6;by_cases ahY:z2≤300
      · have h3z:¬ (300:Int)<z2:=ay;cases b;{(go_upto_region 6 with fail);refine nC 37 aF aF ?_;simp only [List.take_succ_cons,List.take_zero,List.drop_succ_cons,List.drop_zero];(repeat (go_big_quiet_step (fail)));refine wpQuiet_nil ?_;rintro _ ⟨nq,rfl⟩;(go_wp2_with (go_at_call 31;refine (G8.out _ (bV HB.out _)).mono ?_;rintro e w9 ⟨rfl,bA⟩;have aJ:=aj (aI (bV HB.out _) bA);clear bA));refine bodyPost_ret (results_tmp2 rfl _ _ _) rfl ?_;exact ⟨Or.inl rfl,aJ.out⟩}
        · (go_upto_region 6 with fail);refine nC 37 aF aF ?_;simp only [List.take_succ_cons,List.take_zero,List.drop_succ_cons,List.drop_zero];(repeat (go_big_quiet_step (fail)));refine wpQuiet_nil ?_;rintro _ ⟨nq,rfl⟩;(go_wp2_with (go_at_call 31;refine (G8.out _ (bV HB.out _)).mono ?_;rintro e w9 ⟨rfl,bA⟩;have aJ:=aj (aI (bV HB.out _) bA);clear bA));go_roundg (n-(i+1))
          (case measure=>omega);case rel=>exact ⟨i+1,aN,ay,ay,aJ,uO.out (by rw [agS];exact HBI.out.symm)⟩
      {have h3z:(300:Int)<z2:=ay;go_wp2;(go_quiet (fail));go_wp2;refine bodyPost_ret (results_tmp2 rfl _ _ _) rfl ?_;exact ⟨Or.inl rfl,bV HB.out _⟩}
    {obtain rfl:n=i:=ay;have hltz:¬ (n:Int)<(n:Int):=ay;obtain ⟨M,hM,hMt⟩:=aem (show yS L=true from by have:=zk.out;rwa [HN.out,List.take_length] at this);have HM:=aj hMt;subst hM;have wu:M.length≤25:=(by have:=HN.out;rw [List.length_map] at this;omega);have xP:=aj wu;have Ad:=aj (show (Tm.jv M).length≤20000 from by have:=Tm.Vi hMt;omega);have jQ:=aj (show (Tm.eH M).length≤1000 by have:=Tm.EK M;omega);have HRT:=aj (Tm.EI HM.out);clear hMt wu zk;have ahZ:=aj (show n=M.length from by have:=HN.out;rwa [List.length_map] at this);(go_wp2_with fail);refine (agQ M HM.out (by have:=xP.out;omega) wr _ (HV.out.keep HB.out)).mono ?_;rintro e w5 ⟨v5,rfl,Da,hb5⟩;obtain ⟨a5,c5,rfl,_,_,_⟩:=Da.open;rw [List.length_map] at Da ⊢;obtain ⟨n5,Vk⟩:=aC ((Tm.eH M).length);rw [←Vk] at Da ⊢;clear Vk;have dM:=aj Da;have aQ:=aj (aI HB.out hb5);clear Da hb5;(go_wp2_with fail);refine (aeY _ HRT.out jQ.out w5 _ dM.out).mono ?_;rintro e w6 ⟨q,rfl,iK,hb6⟩;have nP:=aj iK;have aR:=aj (aI aQ.out hb6);clear iK hb6;(go_wp2_with fail);refine (aep M HM.out (by have:=xP.out;omega) w6 _ (HV.out.keep aR.out)).mono ?_;rintro e w7 ⟨rfl,gD⟩;have aZ:=aj (aI aR.out gD);have uL:=aj (MP nP.out gD);clear gD;(go_wp2_with fail);refine (afH M HM.out (by have:=xP.out;omega) Ad.out w7 (G7.out.keep aZ.out) (HE.out.keep aZ.out)).mono ?_;rintro e w8 ⟨p,rfl,hS,h_⟩;have HS8:=aj hS;have bC:=aj (aI aZ.out h_);have oO:=aj (MP uL.out h_);clear hS h_ nP uL dM;obtain ⟨vt,ve,vs,vi,hQ,_,hE',_,_⟩:=oO.out;obtain ⟨ae,ce,nA,_⟩:=hE'.open;have d1:=hQ.cell (i:=1) rfl;rw [nA] at d1;obtain ⟨m,hm⟩:=aC ((So.terms (Tm.eH M)).length);rw [←hm] at d1;have uH:=aj hm;clear hm hQ hE' nA;by_cases h30:m≤30;{have agW:¬ (30:Int)<(m:Int):=ay;go_wp2;refine bodyPost_ret (results_tmp2 rfl _ _ _) rfl ?_;exact ⟨Or.inr ⟨M,rfl,HM.out,xP.out,by rw [←uH.out];exact h30,p,q,rfl,HS8.out,oO.out⟩,bC.out⟩};{have agW:(30:Int)<(m:Int):=ay;go_wp2;refine bodyPost_ret (results_tmp2 rfl _ _ _) rfl ?_;exact ⟨Or.inl rfl,bC.out⟩}}
 {have agV:(25:Int)<(n:Int):=ay;go_enter func12,ntmps12;go_wp2;refine bodyPost_ret (results_tmp2 rfl _ _ _) rfl ?_;exact ⟨Or.inl rfl,Below.refl _ _⟩}
end Go.Proofs.YtockbaekcbeenaaGreatDoor
