/-GUn-/
import Derived.Test.YtjaebndajhppgaaGreatDoorMnGRe3
import Derived.BigRegion
import Derived.Deep.RegionWith
set_option linter.unusedVariables false
set_option linter.unusedSimpArgs false
set_option maxRecDepth 100000
set_option maxHeartbeats 2000000
namespace Go.Proofs.YtjaebndajhppgaaGreatDoor
open Go.ChangeShapes Go.WideShapes Go.ChangeAt Go.RowKit
def lU (b:List Nat) (n:Nat):Option (List Bx.aO):=if n≤8∧9+7*n≤b.length∧b.length≤100000 then Bx.iC b n 6 (9+7*n) else none
theorem Rq {W:World} {bb off m cap:Nat} {l:List Nat} (h:BytesAt W (.slice (some ⟨bb,off,none⟩) m cap) l) (i k c off':Nat) (ho:off'=off+i) (hik:i+k≤m) (hkc:k≤c) (hc:c≤maxLen) :
  BytesAt W (.slice (some ⟨bb,off',none⟩) k c) ((l.drop i).take k):=by
 obtain ⟨hn,hr⟩:=bf.row h;have hlen:((l.drop i).take k).length=k:=by simp;omega
 refine ⟨some ⟨bb,off',none⟩,c,by rw [hlen],by omega,hc,(fun h=>by cases h),?_⟩;rw [hlen];rcases Nat.eq_zero_or_pos k with h0 | h0;{exact Or.inl h0};{obtain ⟨b,o,e,hcl⟩:=hr.get (i:=0) (by omega);simp only [Option.some.injEq,Addr.mk.injEq,and_true] at e;obtain ⟨rfl,rfl⟩:=e;refine Or.inr ⟨_,_,rfl,fun t ht=>?_⟩;have:=hcl (i+t) (by omega);rw [ho,Nat.add_assoc,this];simp only [List.getD,List.getElem?_take_of_lt ht,List.getElem?_drop]}
theorem IG {W:World} {bb off m cap:Nat} {l:List Nat} (h:BytesAt W (.slice (some ⟨bb,off,none⟩) m cap) l) (i k c off' k':Nat) (hk:k'=k) (ho:off'=off+i) (hik:i+k≤m) (hkc:k≤c) (hc:c≤maxLen) :
  BytesAt W (.slice (some ⟨bb,off',none⟩) k' c) ((l.drop i).take k):=by subst hk;exact Rq h i _ c off' ho hik hkc hc
theorem Cq (l:List Nat) (i k t:Nat) (h:t<k):((l.drop i).take k).getD t 0=l.getD (i+t) 0:=by simp only [List.getD,List.getElem?_take_of_lt h,List.getElem?_drop]
theorem yG {l:List Nat} (h:∀ i,l.getD i 0<256) (i k:Nat):∀ t,((l.drop i).take k).getD t 0<256:=fun t=>by by_cases ht:t<k;{rw [Cq _ _ _ _ ht];exact h _};{rw [List.getD,List.getElem?_eq_none (by simp;omega)];decide}
def Told (W:World) (bl:Nat) (D:List Bx.aO) (A:List Value):Prop:=
 ∀ j (h:j<D.length),A[j*2]?=some (.int .i64 D[j].1)∧∃ v,A[j*2+1]?=some v∧cu (bl+1) W (fun W=>BytesAt W v D[j].2)
theorem Told.keep {W W':World} {bl:Nat} {D:List Bx.aO} {A:List Value} (h:Told W bl D A) (hb:Below W.heap.size W W'):Told W' bl D A:=fun j hj=>by obtain ⟨h1,v,h2,h3⟩:=h j hj;exact ⟨h1,v,h2,h3.keep hb⟩
theorem Told.snoc {W:World} {bl:Nat} {D:List Bx.aO} {A:List Value} (h:Told W bl D A) (s:Bx.aO) (v:Value) (hA:D.length*2+1<A.length) (hv:cu (bl+1) W (fun W=>BytesAt W v s.2)) :
  Told ((W.setCell ⟨bl,D.length*2,none⟩ (.int .i64 s.1)).setCell ⟨bl,D.length*2+1,none⟩ v) bl (D++[s]) ((A.set (D.length*2) (.int .i64 s.1)).set (D.length*2+1) v):=fun j hj=>by have hup:∀ {P:World→Prop},cu (bl+1) W P→cu (bl+1) ((W.setCell ⟨bl,D.length*2,none⟩ (.int .i64 s.1)).setCell ⟨bl,D.length*2+1,none⟩ v) P:=fun hp=>(hp.zX bl _ _ (by omega)).zX bl _ _ (by omega);by_cases hjd:j<D.length;{obtain ⟨h1,w,h2,h3⟩:=h j hjd;rw [List.getElem_append_left hjd];refine ⟨?_,w,?_,hup h3⟩;{rw [List.getElem?_set_ne (by omega),List.getElem?_set_ne (by omega)];exact h1};{rw [List.getElem?_set_ne (by omega),List.getElem?_set_ne (by omega)];exact h2}};{obtain rfl:j=D.length:=(by simp at hj;omega);rw [List.getElem_append_right (Nat.le_refl _)];simp only [Nat.sub_self,List.getElem_cons_zero];refine ⟨?_,v,?_,hup hv⟩;{rw [List.getElem?_set_ne (by omega),List.getElem?_set];simp;omega};{rw [List.getElem?_set];simp;omega}}
theorem aeX {W:World} {B bl:Nat} {D:List Bx.aO} {A:List Value} (hblk:aj W bl A 56) (hB:B≤bl) (h:Told W bl D A) (hm:D.length≤maxLen):cu B W (fun W=>fU W (.slice (some ⟨bl,0,none⟩) D.length D.length) D):=fun w'' hw=>by
 have hb2:aj w'' bl A 56:=by have hlt:=hblk.lt;unfold aj at *;rw [hw bl hB hlt];exact hblk
 refine ⟨_,_,rfl,Nat.le_refl _,hm,(fun h=>by cases h),?_⟩;refine Or.inr ⟨bl,0,rfl,fun j hj=>?_⟩;obtain ⟨h1,v,h2,h3⟩:=h j hj;exact ⟨by rw [Nat.zero_add];exact hb2.cell h1,v,by rw [Nat.zero_add];exact hb2.cell h2,h3 w'' fun k hk hl=>hw k (by omega) hl⟩
theorem Tryz.info56:(Tryz.prog.info? 56).map (fun i=>(i.zero,i.size,i.bytes))=some (some (.agg #[.int .i64 0,.slice none 0 0]),2,32):=by kernel_rfl
theorem aeY (a:Option Addr) (m cap n:Nat) (b:List Nat) (W:World) (hm:m=b.length) (h:BytesAt W (.slice a m cap) b) (hb:∀ i,b.getD i 0<256) (hn:n≤255) :
  Calls Tryz.prog 88 #[.slice a m cap,.int .i64 n] W fun e W'=>Below W.heap.size W W'∧((lU b n=none∧e=.returned (.tuple #[.slice none 0 0,.bool false])) ∨
   ∃ v L,lU b n=some L∧e=.returned (.tuple #[v,.bool true])∧cu W.heap.size W' (fun W=>fU W v L)):=by
 obtain ⟨i0,hi,hz0,hz1,hz2⟩:=info_parts Tryz.info56;obtain ⟨a',cap',e1,hcap,hcm,hnil,_⟩:=bf.open h;simp only [Value.slice.injEq] at e1;obtain ⟨rfl,hmb,rfl⟩:=e1;rw [←hm] at hcap hnil;have HM:=hid hm;have HA:=hid h;have HB:=hid hb;unfold maxLen at hcm;clear hmb hm h hb;by_cases hc:n≤8∧9+7*n≤m∧m≤100000
 · have HO:=hid (show lU b n=Bx.iC b n 6 (9+7*n) by unfold lU;rw [if_pos (by rw [←HM.out];exact hc)]);generalize lU b n=o at *;obtain ⟨hc1,hc2,hc3⟩:=hc;obtain ⟨bb,off,rfl⟩:∃ bb off,a=some ⟨bb,off,none⟩:=(by obtain ⟨b',off,e,_⟩:=(bf.row HA.out).2.get (i:=0) (by omega);exact ⟨b',off,e⟩);have mk1:∀ W:World,(Instr.makeSlice 58 (.int .i64 (n:Int)) (.int .i64 (n:Int))).run Tryz.prog W=_:=fun W=>run_make W 58 56 i0 _ Tryz.underlying58 hi hz0 .i64 .i64 n n (by omega) (by omega) (by rw [hz2];omega) (by omega);rw [hz1] at mk1;by_cases h9:cap=9+7*n;case' pos=>have h9a:cap-(9+7*n)=0:=(by omega);have h9b:cap≤9+7*n:=(by omega);clear h9
   all_goals
    go_enter Tryz.func88,Tryz.ntmps88
    go_upto_region 4 with (go_at_call 136;refine (Hf n _ (by omega)).mono ?_;rintro e w' ⟨rfl,dx⟩;have oV:=dx.symm;subst oV)
    have hmx:9+7*n≤cap:=by omega
    go_cut [7,8] (fun s7 s8 wx=>s7=.slice (some ⟨bb,off+6,none⟩) (3+7*n) (cap-6)∧(∃ o8 c8,s8=.slice (some ⟨bb,o8,none⟩) (m-(9+7*n)) c8∧c8≤cap∧Hid (BytesAt W (.slice (some ⟨bb,o8,none⟩) (m-(9+7*n)) c8) (b.drop (9+7*n))))∧Hid (Below W.heap.size W wx))
    case first=>
     go_quiet (fail)
     go_wp2_with fail
     all_goals
      go_meet
      refine ⟨by congr 1;omega,⟨_,_,rfl,by omega,?_⟩,aX (Below.refl _ _) _⟩
      have hdt:(b.drop (9+7*n)).take (m-(9+7*n))=b.drop (9+7*n):=List.take_of_length_le (by rw [List.length_drop,←HM.out];exact Nat.le_refl _)
      rw [←hdt]
      first
       | exact IG HA.out (9+7*n) _ _ _ _ rfl (by omega) (by omega) (by omega) (by unfold maxLen;omega)
       | (have hm9:m=9+7*n:=by omega
          have h0:m-(9+7*n)=0:=by omega
          rw [h0,List.take_zero]
          exact ⟨_,_,rfl,Nat.zero_le _,by unfold maxLen;omega,(fun h=>by cases h),Or.inl rfl⟩)
    case rest=>
     obtain ⟨rfl,⟨o8,c8,rfl,hc8,aD⟩,fV⟩:=hcut
     go_wp2
     obtain ⟨w3,hw3⟩:∃ w3,w3=wc.alloc (.cells (madeCells #[.int .i64 0,.slice none 0 0] (n*2)) 56):=⟨_,rfl⟩
     rw [←hw3]
     have HZ3:=hid (show w3.heap.size=wc.heap.size+1 by rw [hw3];simp)
     have hwz:=fV.out.size
     have HB3:=hid (show Below W.heap.size W w3 by rw [hw3];exact fV.out.alloc hwz _)
     have Rs:=hid (show aj w3 wc.heap.size (madeCells #[.int .i64 0,.slice none 0 0] (n*2)).toList 56 by rw [hw3];exact aj.new' rfl rfl)
     have HL3:=hid (show (madeCells #[.int .i64 0,.slice none 0 0] (n*2)).toList.length=n*2 by simp [madeCells])
     generalize (madeCells #[.int .i64 0,.slice none 0 0] (n*2)).toList=A0 at *
     obtain ⟨bl,hbl⟩:∃ bl,bl=wc.heap.size:=⟨_,rfl⟩
     rw [←hbl] at Rs HZ3 hwz ⊢
     clear hw3 fV mk1 hbl hnil
     go_loopw [8,38] (fun s8 II wr=>∃ (i q o8 c8:Nat) (D:List Bx.aO) (A:List Value),i≤n∧II=.int .i64 i∧q≤m∧s8=.slice (some ⟨bb,o8,none⟩) (m-q) c8∧c8≤cap∧Hid (D.length=i∧A.length=n*2) ∧
      Hid (BytesAt W (.slice (some ⟨bb,o8,none⟩) (m-q) c8) (b.drop q))∧Hid (aj wr bl A 56)∧Hid (Told wr bl D A)∧Hid (Bx.iC b n 6 (9+7*n)=(Bx.iC b (n-i) (6+7*i) q).map (D++·))∧Hid (Below W.heap.size W wr)) (fun _ II _=>n-(intOf II).toNat)
     case atStart=>exact ⟨0,9+7*n,o8,c8,[],A0,by omega,rfl,by omega,rfl,hc8,hid ⟨rfl,HL3.out⟩,aD,Rs,hid (fun j hj=>absurd hj (Nat.not_lt_zero _)),hid (by simp),HB3⟩
     case round=>
      obtain ⟨i,q,o8,c8,D,A,hin,rfl,hqm,rfl,hc8,yU,aD,BK,HT,HC,fV⟩:=hrel
      by_cases hlt:i<n
      · have hmc:m-q≤c8:=by
         obtain ⟨a',c',e,h1,_⟩:=id aD.out
         rw [List.length_drop,←HM.out] at e h1
         simp only [Value.slice.injEq] at e
         omega
        have hcx:i*7<cap-6:=by omega
        have hcy:1<cap-6-i*7:=by omega
        have hln:((b.drop (6+7*i+1)).take (2+7*n-7*i)).length=2+7*n-7*i:=by rw [List.length_take,List.length_drop,←HM.out];omega
        have E0:=hid (Cq b (6+7*i+1) (2+7*n-7*i) 0 (by omega))
        have E1:=hid (Cq b (6+7*i+1) (2+7*n-7*i) 1 (by omega))
        have E2:=hid (Cq b (6+7*i+1) (2+7*n-7*i) 2 (by omega))
        have T3:=hid (fun v W (h:BytesAt W v ((b.drop (6+7*i+1)).take (2+7*n-7*i)))=>by
         have:=adX v _ W h (by rw [hln];omega) (yG HB.out _ _)
         rw [E0.out,E1.out,E2.out] at this;exact this)
        obtain ⟨z,hz⟩:∃ z,z=Bx.mM (b.getD (6+7*i+1+0) 0) (b.getD (6+7*i+1+1) 0) (b.getD (6+7*i+1+2) 0):=⟨_,rfl⟩
        rw [←hz] at T3
        have hstep:Bx.iC b (n-i) (6+7*i) q=if z+q≤m then (Bx.iC b (n-(i+1)) (6+7*(i+1)) (q+z)).map fun L=>(((b.getD (6+7*i) 0:Nat):Int),(b.drop q).take z)::L else none:=by
         rw [show n-i=(n-(i+1))+1 by omega,Bx.iC,hz,HM.out];rfl
        have HST:=hid hstep
        have hzl:z<16777216:=by
         have h0:=HB.out (6+7*i+1+0);have h1:=HB.out (6+7*i+1+1);have h2:=HB.out (6+7*i+1+2)
         rw [hz];unfold Bx.mM;omega
        have lu:(i:Int)<n:=by omega
        have IJ:=hid (HA.out.keep fV.out)
        clear hstep hz hln E0 E1 E2
        go_upto_region 11 with (go_at_call 137;refine (T3.out _ _ (IG IJ.out (6+7*i+1) (2+7*n-7*i) _ _ _ (by omega) (by omega) (by omega) (by omega) (by unfold maxLen;omega))).mono ?_;rintro e w4 ⟨rfl,q4,rfl⟩)
        obtain ⟨w4,hw4⟩:∃ w4,w4=wr.drewN q4:=⟨_,rfl⟩
        rw [←hw4]
        have hb4:Below wr.heap.size wr w4:=by rw [hw4];exact aX (Below.refl _ _) _
        have IK:=hid (aA fV.out hb4)
        have qH:=hid (BK.out.keep hb4)
        have bE:=hid (HT.out.keep hb4)
        have HA4:=hid (IJ.out.keep hb4)
        clear hw4 hb4 BK HT IJ fV
        by_cases hzq:z≤m-q
        · have hst:=HST.out
          rw [if_pos (by omega)] at hst
          have gP:=hid (show Bx.iC b n 6 (9+7*n)=(Bx.iC b (n-(i+1)) (6+7*(i+1)) (q+z)).map ((D++[(((b.getD (6+7*i) 0:Nat):Int),(b.drop q).take z)])++·) by
           rw [HC.out,hst,Option.map_map];congr 1;funext L;simp)
          have aeZ:=hid (show BytesAt W (.slice (some ⟨bb,o8,none⟩) z c8) ((b.drop q).take z) by
           have:=Rq aD.out 0 z c8 o8 rfl (by omega) (by omega) (by unfold maxLen;omega)
           rwa [List.drop_zero] at this)
          obtain ⟨cr,co,ce,hce⟩:=(bf.row HA4.out).2.get (i:=6+7*i) (by omega)
          simp only [Option.some.injEq,Addr.mk.injEq,and_true] at ce
          obtain ⟨rfl,rfl⟩:=ce
          have c0:=hce (6+7*i) (by omega)
          have IL:=HB.out (6+7*i)
          obtain ⟨x,hx⟩:∃ x,x=b.getD (6+7*i) 0:=⟨_,rfl⟩
          rw [←hx] at c0 IL gP
          simp only [aF] at c0
          have c1:w4.cell? ⟨bb,off+6+i*7,none⟩=some (.int .u8 (x:Nat)):=by rw [←c0];congr 2;omega
          clear hst hce c0 hx HST HC
          go_upto_region 13 with fail
          have hal:i*2+1<A.length:=by rw [yU.out.2];omega
          have IQ:=qH.out.cell (i:=i*2) (v:=A[i*2]) (List.getElem?_eq_getElem (by omega))
          have IU:=qH.out.cell (i:=i*2+1) (v:=A[i*2+1]) (List.getElem?_eq_getElem (by omega))
          have fA0:=qH.out.free (i*2)
          have fA1:=qH.out.free (i*2+1)
          have hblt:=qH.out.lt
          have hlz:((b.drop q).take z).length=z:=by rw [List.length_take,List.length_drop,←HM.out];omega
          have CL:=hid (fun W' (hW:Below W.heap.size W W')=>(adZ _ _ W' (aeZ.out.keep hW) (by omega)).mono (R':=fun e W''=>∃ a5 c5,e=.returned (.slice a5 z c5)∧Below W'.heap.size W' W''∧cu W'.heap.size W'' (fun W=>BytesAt W (.slice a5 z c5) ((b.drop q).take z))) (by
           rintro e W'' ⟨v,rfl,h1,h2⟩
           obtain ⟨a5,c5,rfl,_⟩:=bf.open h2.it
           rw [hlz] at h2 ⊢
           exact ⟨a5,c5,rfl,h1,h2⟩))
          generalize A[i*2]=A1 at IQ
          generalize A[i*2+1]=A2 at IU
          go_region_with ((go_at_call 138;refine (CL.out _ IK.out.drew).mono ?_;rintro e w5 ⟨a5,c5,rfl,Rt,Ru⟩;have jX:=aA (Below.refl w4.heap.size w4).drew Rt;have k1:=ak jX c1;have k2:=ak jX IQ;have k3:=ak jX IU;have k4:=(qH.out.keep jX).free (i*2);have k5:=(qH.out.keep jX).free (i*2+1)))
          all_goals
           try rw [show IntKind.i64.wrap (x:Int)=x from IntWalk.i64_in _ (by omega)]
           obtain ⟨w6,dh⟩:∃ w6,w6=(w5.setCell ⟨bl,i*2,none⟩ (.int .i64 (x:Nat))).setCell ⟨bl,i*2+1,none⟩ (.slice a5 z c5):=⟨_,rfl⟩
           rw [←dh]
           have hdi:=yU.out.1
           have gK:=hid (show Told w6 bl (D++[(((x:Nat):Int),(b.drop q).take z)]) ((A.set (i*2) (.int .i64 (x:Nat))).set (i*2+1) (.slice a5 z c5)) by
            rw [dh]
            have:=(bE.out.keep jX).snoc (((x:Nat):Int),(b.drop q).take z) (.slice a5 z c5) (by rw [hdi];exact hal) (Ru.mono (by show bl+1≤w4.heap.size;omega))
            rw [hdi] at this;exact this)
           have xO:=hid (show aj w6 bl ((A.set (i*2) (.int .i64 (x:Nat))).set (i*2+1) (.slice a5 z c5)) 56 by
            rw [dh];exact ((qH.out.keep jX).set _ _).set _ _)
           have Rv:=hid (show Below W.heap.size W w6 by rw [dh];exact ((aA IK.out jX).setCell hwz _).setCell hwz _)
           have HSL:=hid (show (b.drop (q+z))=(b.drop q).drop z by rw [List.drop_drop])
           have Rw:=hid (show ((D++[(((x:Nat):Int),(b.drop q).take z)]).length=i+1∧((A.set (i*2) (.int .i64 (x:Nat))).set (i*2+1) (.slice a5 z c5)).length=n*2) by
            refine ⟨by rw [List.length_append,hdi];rfl,by rw [List.length_set,List.length_set];exact yU.out.2⟩)
           clear dh hdi k1 k2 k3 k4 k5 IQ IU fA0 fA1 c1 jX Rt Ru CL
           have hdt:((b.drop q).drop z).take (m-q-z)=(b.drop q).drop z:=List.take_of_length_le (by rw [List.length_drop,List.length_drop,←HM.out];exact Nat.le_refl _)
           by_cases hcz:z<c8
           · have IV:=hid (show BytesAt W (.slice (some ⟨bb,o8+z,none⟩) (m-(q+z)) (c8-z)) (b.drop (q+z)) by
              rw [HSL.out,←hdt]
              exact IG aD.out z (m-q-z) (c8-z) (o8+z) _ (by omega) rfl (by omega) (by omega) (by unfold maxLen;omega))
             clear hdt
             go_wp2
             go_roundw
             case rel=>exact ⟨i+1,q+z,o8+z,c8-z,D++[(((x:Nat):Int),(b.drop q).take z)],_,by omega,by go_num,by omega,by rw [Nat.sub_sub],by omega,Rw,IV,xO,gK,gP,Rv⟩
             case measure=>simp [intOf];omega
           · have agz:c8-z=0:=by omega
             have hcz2:c8≤z:=by omega
             have IV:=hid (show BytesAt W (.slice (some ⟨bb,o8,none⟩) (m-(q+z)) 0) (b.drop (q+z)) by
              have e0:m-(q+z)=0:=by omega
              have e1:b.drop (q+z)=[]:=List.drop_of_length_le (by rw [←HM.out];omega)
              rw [e0,e1]
              exact ⟨_,_,rfl,Nat.zero_le _,by unfold maxLen;omega,(fun h=>by cases h),Or.inl rfl⟩)
             clear hdt hcz
             go_wp2
             go_roundw
             case rel=>exact ⟨i+1,q+z,o8,0,D++[(((x:Nat):Int),(b.drop q).take z)],_,by omega,by go_num,by omega,by rw [Nat.sub_sub],by omega,Rw,IV,xO,gK,gP,Rv⟩
             case measure=>simp [intOf];omega
        · have hst:=HST.out
          rw [if_neg (by omega)] at hst
          have HF:=hid (show o=none by rw [HO.out,HC.out,hst];rfl)
          have agA:m-q<z:=by omega
          clear hst
          go_wp2
          go_ret2
          exact ⟨IK.out,Or.inl ⟨HF.out,rfl⟩⟩
      · obtain rfl:i=n:=by omega
        have hfin:=HC.out
        rw [Nat.sub_self,Bx.iC,Option.map_some,List.append_nil] at hfin
        have HF:=hid (show o=some D by rw [HO.out,hfin])
        have TS:=hid (aeX BK.out hwz HT.out (by have:=yU.out.1;unfold maxLen;omega))
        have HDI:=hid yU.out.1
        clear hfin
        go_wp2
        go_ret2
        refine ⟨fV.out,Or.inr ⟨_,D,HF.out,rfl,?_⟩⟩
        have:=TS.out
        rw [HDI.out] at this
        exact this
 · have HO:=hid (show lU b n=none by unfold lU;rw [if_neg (by rw [←HM.out];exact hc)]);have Ic:m≤9223372036854775807:=(by omega);rcases (show 8<n∨(n≤8∧m<9+7*n)∨(n≤8∧9+7*n≤m∧100000<m) by omega) with h1 | ⟨h1,h2⟩ | ⟨h1,h2,h3⟩;all_goals
    clear hc
    go_enter Tryz.func88,Tryz.ntmps88
    go_wp2_with (go_at_call 136;refine (Hf n _ (by omega)).mono ?_;rintro e w' ⟨rfl,dx⟩;have oV:=dx.symm;subst oV)
    go_ret2
    exact ⟨Below.refl _ _,Or.inl ⟨HO.out,rfl⟩⟩
theorem ae0 (b:List Nat) (hb:∀ i,b.getD i 0<256):∀ (n e q:Nat) (L:List Bx.aO),Bx.iC b n e q=some L→L.length=n∧∀ s∈L,(0≤s.1∧s.1≤255)∧s.2.length≤b.length∧∀ i,s.2.getD i 0<256:=by
 intro n;induction n with
 | zero=>intro e q L h;simp [Bx.iC] at h;subst h;exact ⟨rfl,fun s hs=>by cases hs⟩
 | succ n ih=>
  intro e q L h;rw [Bx.iC] at h;split at h
  · cases hc:Bx.iC b n (e+7) (q+Bx.mM (b.getD (e+1) 0) (b.getD (e+2) 0) (b.getD (e+3) 0)) with
    | none=>rw [hc] at h;cases h
    | some L'=>rw [hc] at h;simp only [Option.map_some,Option.some.injEq] at h;obtain ⟨h1,h2⟩:=ih _ _ L' hc;subst h;refine ⟨by simp [h1],fun s hs=>?_⟩;rcases List.mem_cons.1 hs with rfl | hs;{have:=hb e;refine ⟨⟨by simp,by show ((b.getD e 0:Nat):Int)≤255;omega⟩,by simp;omega,yG hb q _⟩};{exact h2 s hs}
  {cases h}
theorem ae2 {b:List Nat} (h6:6≤b.length):lU b (b.getD 5 0)=Bx.uS b:=by unfold lU Bx.uS;by_cases h:b.getD 5 0≤8∧9+7*b.getD 5 0≤b.length∧b.length≤100000;{rw [if_pos h,if_pos ⟨h6,h⟩]};{rw [if_neg h,if_neg (fun hh=>h hh.2)]}
open Classical in
theorem ae3 {b:List Nat} (h6:6≤b.length):Bx.fT b=match lU b (b.getD 5 0) with | some L=>if Bx.May L∧Bx.file L=b then some L else none | none=>none:=by rw [ae2 h6];rfl
theorem ae4 {b:List Nat} (h6:b.length<6):Bx.fT b=none:=by unfold Bx.fT Bx.uS;rw [if_neg (by omega)]
theorem Cm (L:List Bx.aO) (hb:Bx.Bytes L):∀ i,(Bx.file L).getD i 0<256:=BQ fun x hx=>by unfold Bx.file at hx;rw [List.mem_append,List.mem_append] at hx;rcases hx with (hx | hx) | hx;{exact Ho L x hx};{unfold Bx.three at hx;simp at hx;omega};{unfold Bx.bodies at hx;rw [List.mem_flatMap] at hx;obtain ⟨s,hs,hx⟩:=hx;obtain ⟨i,hi,rfl⟩:=List.getElem_of_mem hx;have:=hb s hs i;rwa [List.getD,List.getElem?_eq_getElem hi] at this}
def ae5 (b:List Nat) (B:Nat) (W':World) (e:Ending) (c:Int):Prop:=
 (Bx.fT b=none∧e=.returned (.tuple #[.slice none 0 0,.int .i64 c]))∨∃ v L,Bx.fT b=some L∧e=.returned (.tuple #[v,.int .i64 0])∧cu B W' (fun W=>fU W v L)
theorem Rx (a:Option Addr) (m cap:Nat) (b:List Nat) (W:World) (hm:m=b.length) (h:BytesAt W (.slice a m cap) b) (hb:∀ i,b.getD i 0<256) :
  Calls Tryz.prog 46 #[.slice a m cap] W fun e W'=>Below W.heap.size W W'∧ae5 b W.heap.size W' e 2:=by
 have HM:=hid hm;have HA:=hid h;have HB:=hid hb;have hml:m≤maxLen:=by rw [hm];exact bf.len h
 unfold maxLen at hml;clear hm h hb;by_cases h6:m<6
 · have HF:=hid (ae4 (b:=b) (by rw [←HM.out];exact h6));go_enter Tryz.func46,Tryz.ntmps46;go_wp2;go_ret2
   exact ⟨Below.refl _ _,Or.inl ⟨HF.out,rfl⟩⟩
 · have HU:=hid (ae3 (b:=b) (by have:=HM.out;omega));obtain ⟨bb,off,hab,hc⟩:=(bf.row HA.out).2.get (i:=5) (by omega);subst hab;have c5:=hc 5 (by omega);have h5:=HB.out 5;have CT:=hid (aeY (some ⟨bb,off,none⟩) m cap (b.getD 5 0) b W HM.out HA.out HB.out (by omega));have HCB:=hid (fun n e q L=>ae0 b HB.out n e q L);obtain ⟨x,hx⟩:∃ x,x=b.getD 5 0:=⟨_,rfl⟩;rw [←hx] at c5 h5 CT HU;simp only [aF] at c5;clear hc hx;go_enter Tryz.func46,Tryz.ntmps46;(go_wp2_with fail);refine CT.out.mono ?_;rintro e w1 ⟨hB1,⟨ho,rfl⟩ | ⟨v,L,ho,rfl,hF⟩⟩
   · have HF:=hid (show Bx.fT b=none by rw [HU.out,ho]);have HB1:=hid hB1;clear ho hB1 CT;go_wp2;go_ret2
     exact ⟨HB1.out,Or.inl ⟨HF.out,rfl⟩⟩
   · have HB1:=hid hB1;have HF:=hid hF;obtain ⟨av,cv,rfl,agB,agC,_⟩:=fU.open hF.it;have hcut:Bx.iC b x 6 (9+7*x)=some L:=(by unfold lU at ho;split at ho;{exact ho};{cases ho});have ae6:=hid (show b.length≤100000 by
      unfold lU at ho;split at ho;{rename_i hh;exact hh.2.2}
      · cases ho)
     obtain ⟨_,IW⟩:=HCB.out _ _ _ _ hcut;rename_i hLn;clear hLn;have aY:=hid (fun (hh:¬ (Bx.May L∧Bx.file L=b))=>show Bx.fT b=none by rw [HU.out,ho];simp only;rw [if_neg hh]);have vg:=hid IW;have ae7:Bx.Bytes L:=fun s hs=>(IW s hs).2.2;have uX:=hid ae7;clear ho hB1 CT hcut IW hF HU;by_cases hM:Bx.May L
     · have PK:=hid (Ql av L.length cv L w1 rfl HF.out.it hM uX.out);have qh:=hid hM;clear hM;(go_upto_region 7 with (go_at_call 59;refine PK.out.mono ?_;rintro e w2 ⟨v2,rfl,hB2,hown⟩));have HB2:=hid hB2;have kH:=hid (su hown (Bx.jO L).symm);obtain ⟨a2,c2,rfl,_⟩:=bf.open kH.out;have HQ:=hid (QE _ _ (Bx.file L) b w2 kH.out (HA.out.keep (aA HB1.out HB2.out)) (Cm L uX.out) HB.out);clear hown hB2 PK;by_cases heq:Bx.file L=b
       · have HE:=hid (show Bx.fT b=some L from Bx.GZ.2 ⟨qh.out,heq⟩);rw [decide_eq_true heq] at HQ;clear heq aY;(go_wp2_with (go_at_call 50;refine HQ.out.mono ?_;rintro e w3 ⟨rfl,dx⟩;have oV:=dx.symm;subst oV));go_ret2
         exact ⟨aA HB1.out HB2.out,Or.inr ⟨_,L,HE.out,rfl,HF.out.keep HB2.out⟩⟩
       · have HE:=hid (show Bx.fT b=none from aY.out (fun h=>heq h.2));rw [decide_eq_false heq] at HQ;clear heq aY;(go_wp2_with (go_at_call 50;refine HQ.out.mono ?_;rintro e w3 ⟨rfl,dx⟩;have oV:=dx.symm;subst oV));go_ret2
         exact ⟨aA HB1.out HB2.out,Or.inl ⟨HE.out,rfl⟩⟩
     · have HE:=hid (show Bx.fT b=none from aY.out (fun h=>hM h.1));have PK:=hid (adx av L.length cv L w1 rfl HF.out.it (fun s hs=>by have:=vg.out s hs;have:=ae6.out;omega) hM);clear hM aY;(go_wp2_with (go_at_call 59;refine PK.out.mono ?_;rintro e w2 ⟨rfl,hB2⟩));go_ret2
       exact ⟨aA HB1.out hB2,Or.inl ⟨HE.out,rfl⟩⟩
end Go.Proofs.YtjaebndajhppgaaGreatDoor
