/-BxRUnp-/
import Derived.Test.YtjaebndajhppgaaGreatDoorMfHd1
import Derived.Test.YtjaebndajhppgaaGreatDoorMfGRe3
import Derived.Test.YtjaebndajhppgaaGreatDoorMfGTri
import Derived.Test.YtjaebndajhppgaaGreatDoorMfGUn
set_option linter.unusedVariables false
set_option linter.unusedSimpArgs false
set_option maxRecDepth 100000
set_option maxHeartbeats 2000000
namespace Go.Proofs.YtjaebndajhppgaaGreatDoor
open Go.Proofs.Tryz
open Go.ChangeShapes Go.WideShapes Go.ChangeAt Go.RowKit
theorem ahJ {w:World} {ad:Addr} {m c:Nat} {l:List Nat} (h:bN w (.slice (some ad) m c) l):∀ j u,(l.map aM)[j]?=some u→w.cell? (ad.add j)=some u:=by
 intro j u hu;obtain ⟨a',c',e,_,_,_,_⟩:=bD.open h;simp only [Value.slice.injEq] at e;have hj:j<l.length:=by have:=List.getElem?_eq_some_iff.1 hu;obtain ⟨h1,_⟩:=this;simpa using h1
 obtain ⟨b,off,hb,hc⟩:=(bD.row h).2.get (i:=j) ak;cases hb;rw [gG rfl,hc j ak];rw [←hu];simp [List.getD,hj]
def Beside (B:Nat) (w:World) (v:Value) (P:World→Prop):Prop:=∀ w'',(∀ k,B≤k→k<w.heap.size→v.ownBlock≠some k→w''.heap[k]?=w.heap[k]?)→P w''
theorem Beside.keep {B:Nat} {w w':World} {v:Value} {P:World→Prop} (h:Beside B w v P) (hb:Below w.heap.size w w'):Beside B w' v P:=
 fun w'' hw=>h w'' fun k hk hl hn=>by rw [hw k hk (Nat.lt_of_lt_of_le hl hb.size) hn,hb.block k hl]
theorem Beside.moved {B:Nat} {w w':World} {v v':Value} {P:World→Prop} (h:Beside B w v P) (hg:w.grownBy w' v.ownBlock) (hm:Moved w v v'):Beside B w' v' P:=
 fun w'' hw=>h w'' fun k hk hl hn=>by rw [hw k hk (Nat.lt_of_lt_of_le hl hg.size) ?_,hg.block k hl (fun e=>hn e.symm)];rcases hm with e | ⟨g,e,hge⟩;{rw [e];exact hn};{rw [e];intro h;cases h;omega}
theorem dH.beside {B C:Nat} {w:World} {v:Value} {P:World→Prop} (h:dH C w P) (hBC:B≤C) (hv:∀ k,v.ownBlock=some k→k<C):Beside B w v P:=
 fun w'' hw=>h w'' fun k hk hl=>hw k (Nat.le_trans hBC hk) hl fun e=>by have:=hv k e;omega
theorem Beside.fresh {B:Nat} {w:World} {v:Value} {P:World→Prop} (h:Beside B w v P):dH B w P:=
 fun w'' hw=>h w'' fun k hk hl _=>hw k hk hl
def pY (B:Nat) (w:World) (v:Value) (D:List Bx.aY) (A:List Value):Prop:=
 ∀ j (h:j<D.length),A[j*2]?=some (.int .i64 D[j].1)∧∃ u,A[j*2+1]?=some u∧Beside B w v (fun W=>bN W u D[j].2)
theorem pY.keep {B:Nat} {w w':World} {v:Value} {D:List Bx.aY} {A:List Value} (h:pY B w v D A) (hb:Below w.heap.size w w'):pY B w' v D A:=fun j hj=>by obtain ⟨h1,u,h2,h3⟩:=h j hj;exact ⟨h1,u,h2,h3.keep hb⟩
theorem pY.snoc {B:Nat} {w w':World} {v v':Value} {D:List Bx.aY} {A:List Value} (h:pY B w v D A) (s:Bx.aY) (u:Value) (hA:A.length=D.length*2) (hu:Beside B w v (fun W=>bN W u s.2)) (hg:w.grownBy w' v.ownBlock) (hm:Moved w v v') :
  pY B w' v' (D++[s]) (A++[.int .i64 s.1,u]):=fun j hj=>by by_cases hjd:j<D.length;{obtain ⟨h1,x,h2,h3⟩:=h j hjd;rw [List.getElem_append_left hjd];exact ⟨by rw [List.getElem?_append_left ak];exact h1,x,by rw [List.getElem?_append_left ak];exact h2,h3.moved hg hm⟩};{obtain rfl:j=D.length:=(by simp at hj;omega);rw [List.getElem_append_right aF];simp only [Nat.sub_self,List.getElem_cons_zero];refine ⟨?_,u,?_,hu.moved hg hm⟩;{rw [List.getElem?_append_right ak];have:D.length*2-A.length=0:=ak;rw [this];rfl};{rw [List.getElem?_append_right ak];have:D.length*2+1-A.length=1:=ak;rw [this];rfl}}
theorem pY.secs {B:Nat} {w:World} {v:Value} {D:List Bx.aY} {A:List Value} (h:pY B w v D A) (hown:w.ownsRow B 56 2 v D.length A):dH B w (fun W=>fP W v D):=fun w'' hw=>by have ho:=Dy hown hw;rcases ho.2 with ⟨rfl,h0⟩ | ⟨g,cap,cur,rfl,hg,hh,hnc,hcm,hcs,htake⟩;{have hD:D=[]:=List.eq_nil_of_length_eq_zero h0;subst hD;exact fP.nil w''};{refine ⟨_,cap,rfl,hnc,hcm,(fun h=>by cases h),Or.inr ⟨g,0,rfl,fun j hj=>?_⟩⟩;obtain ⟨h1,u,h2,h3⟩:=h j hj;have hc:=ho.cells (g:=g) rfl;have k1:=hc _ _ h1;have k2:=hc _ _ h2;rw [gG rfl] at k1 k2;exact ⟨k1,u,k2,h3 w'' fun k hk hl _=>hw k hk hl⟩}
theorem V_ {b:List Nat} (h:¬ (6≤b.length∧b.getD 5 0≤8∧9+7*b.getD 5 0≤b.length)):Bx.iq b=none:=by unfold Bx.iq Bx.vB;rw [if_neg (fun hh=>h ⟨hh.1,hh.2.1,hh.2.2.1⟩)]
theorem ahK (D:List Bx.aY) (s:Bx.aY):Bx.sizes (D++[s])=Bx.sizes D+s.2.length:=by unfold Bx.sizes;simp
theorem ahL (a:Option Addr) (m cap:Nat) (b:List Nat) (W:World) (hm:m=b.length) (h:bN W (.slice a m cap) b) (hb:∀ i,b.getD i 0<256) (h5:m≤30000) :
  Calls prog 51 #[.slice a m cap] W fun e W'=>Below W.heap.size W W'∧V8 b W.heap.size W' e 2:=by
 obtain ⟨iu,hi,hz0,hz1,hz2⟩:=info_parts Tryz.infobx5;obtain ⟨is,hsi,hsz0,hsz1,hsz2⟩:=info_parts Tryz.info56;obtain ⟨a',cap',e1,hcap,hcm,hnil,_⟩:=bD.open h;simp only [Value.slice.injEq] at e1;obtain ⟨rfl,hmb,rfl⟩:=e1;rw [←hm] at hcap hnil;have HM:=aj hm;have HA:=aj h;have HB:=aj hb;unfold maxLen at hcm;clear hmb hm h hb hnil;by_cases h9:m<9
 · have HF:=aj (show Bx.iq b=none from V_ (by have:=HM.out;omega));go_enter func51,ntmps51;go_wp2;go_ret2
   exact ⟨Below.refl _ _,Or.inl ⟨HF.out,rfl⟩⟩
 · obtain ⟨bb,off,rfl,hce⟩:=(bD.row HA.out).2.get (i:=5) ak;have c5:=hce 5 ak;have Lh:=HB.out 5;have Fz:=aj (V_ (b:=b));have FB:=aj (V7 (b:=b) (by have:=HM.out;omega));have jY:=aj (fun n e q L=>V6 b HB.out n e q L);obtain ⟨x,hx⟩:=aB (b.getD 5 0);rw [←hx] at c5 Lh Fz FB;simp only [aM] at c5;have h9':9≤m:=ak;clear hce hx h9;by_cases hx9:8<x
   · have HF:=aj (Fz.out ak);have hb1:decide ((8:Int)<(x:Int))=true:=decide_eq_true ak;go_enter func51,ntmps51;go_wp2;go_ret2
     exact ⟨Below.refl _ _,Or.inl ⟨HF.out,rfl⟩⟩
   · have ajf:x≤8:=ak;clear hx9;by_cases hat:m<9+7*x
     · have HF:=aj (Fz.out (by have:=HM.out;omega));go_enter func51,ntmps51;go_wp2;go_ret2
       exact ⟨Below.refl _ _,Or.inl ⟨HF.out,rfl⟩⟩
     · have hat':9+7*x≤m:=ak;have Lp:=aj (show lH b x=Bx.fq b x 6 (9+7*x) by unfold lH;rw [if_pos (by have:=HM.out;omega)]);clear hat Fz;go_enter func51,ntmps51;go_wp2;go_loopw [5,6,7] (fun s5 s6 s7 wr=>∃ (i q:Nat) (v:Value) (D:List Bx.aY) (A:List Value),i≤x∧s7=.int .i64 i∧q≤m∧s5=.int .i64 q∧s6=v∧Hid (D.length=i∧A.length=i*2∧q=9+7*x+Bx.sizes D) ∧
        Hid (wr.ownsRow W.heap.size 56 2 v i A)∧Hid (pY W.heap.size wr v D A)∧Hid (Bx.fq b x 6 (9+7*x)=(Bx.fq b (x-i) (6+7*i) q).map (D++·))∧Hid (Below W.heap.size W wr)) (fun _ _ s7 _=>x-(intOf s7).toNat)
       (case atStart=>exact ⟨0,9+7*x,.slice none 0 0,[],[],ak,rfl,ak,aN,rfl,aj ⟨rfl,rfl,by simp [Bx.sizes]⟩,aj ⟨rfl,Or.inl ⟨rfl,rfl⟩⟩,aj (fun j hj=>absurd hj (Nat.not_lt_zero _)),aj aI,Below.refl _ _⟩);case round=>
        obtain ⟨i,q,v,D,A,hix,rfl,hqm,rfl,hv,HD,HO,HR,HC,eB⟩:=hrel;have hv2:=hv.symm;subst hv2;clear hv;by_cases hlt:i<x
        · have lS:(i:Int)<x:=ak;obtain ⟨b',off',e,hce⟩:=(bD.row (HA.out.keep eB.out)).2.get (i:=6+7*i) ak;simp only [Option.some.injEq,Addr.mk.injEq,and_true] at e;obtain ⟨rfl,rfl⟩:=e;have c0:=hce (6+7*i) ak;have c1:wr.cell? ⟨bb,off+(6+7*i)+1,none⟩=some (aM (b.getD (6+7*i+1) 0)):=(by rw [Nat.add_assoc];exact hce (6+7*i+1) ak);have c2:wr.cell? ⟨bb,off+(6+7*i)+2,none⟩=some (aM (b.getD (6+7*i+2) 0)):=(by rw [Nat.add_assoc];exact hce (6+7*i+2) ak);have c3:wr.cell? ⟨bb,off+(6+7*i)+3,none⟩=some (aM (b.getD (6+7*i+3) 0)):=(by rw [Nat.add_assoc];exact hce (6+7*i+3) ak);simp only [aM] at c0 c1 c2 c3;have k0:=HB.out (6+7*i);have k1:=HB.out (6+7*i+1);have k2:=HB.out (6+7*i+2);have k3:=HB.out (6+7*i+3);have OR:=UY _ _ _ k1 k2 k3;obtain ⟨z,hz⟩:=aB (Bx.mD (b.getD (6+7*i+1) 0) (b.getD (6+7*i+2) 0) (b.getD (6+7*i+3) 0));rw [←hz] at OR;have hstep:Bx.fq b (x-i) (6+7*i) q=if z+q≤m then (Bx.fq b (x-(i+1)) (6+7*(i+1)) (q+z)).map fun L=>(((b.getD (6+7*i) 0:Nat):Int),(b.drop q).take z)::L else none:=by rw [show x-i=(x-(i+1))+1 by omega,Bx.fq,hz,HM.out];rfl
          have HST:=aj hstep;have hzl:z<16777216:=(by rw [hz];unfold Bx.mD;omega);clear hstep hz hce;generalize b.getD (6+7*i) 0=id at *;generalize b.getD (6+7*i+1) 0=y1 at *;generalize b.getD (6+7*i+2) 0=y2 at *;generalize b.getD (6+7*i+3) 0=y3 at *;have hc6:cap-(6+7*i)≠0:=ak;have ahM:¬ cap≤6+7*i:=ak;(go_upto_region 12 with fail);have hml:4<m-(6+7*i):=ak;obtain ⟨oe,hoe⟩:=aB (off+(6+7*i));obtain ⟨ml,Dl⟩:=aB (m-(6+7*i));obtain ⟨ce,Wd⟩:=aB (cap-(6+7*i));have hmc:ml≤ce:=ak;rw [←hoe] at c0 c1 c2 c3 ⊢;rw [←Dl] at hml ⊢;rw [←Wd] at ⊢;clear hoe Dl Wd hc6 ahM;have j0:0<ml:=ak;have j1:1<ml:=ak;have j2:2<ml:=ak;have j3:3<ml:=ak;(go_quiet (fail));by_cases Ut:z≤m-q
          · have hzb:decide (((m:Int)-(q:Int))<(z:Int))=false:=decide_eq_false ak;have hst:=HST.out;rw [if_pos ak] at hst;have gM:=aj (show Bx.fq b x 6 (9+7*x)=(Bx.fq b (x-(i+1)) (6+7*(i+1)) (q+z)).map ((D++[(((id:Nat):Int),(b.drop q).take z)])++·) by rw [HC.out,hst,Option.map_map];congr 1;funext L;simp);obtain ⟨w4,hw4⟩:=aB (wr.drewN nq);rw [←hw4];have hb4:Below wr.heap.size wr w4:=(by rw [hw4];exact bn (Below.refl _ _) _);have tO:=aj (aJ eB.out hb4);have c0:=aD hb4 c0;have jA:=aj (xI HO.out hb4);have HR4:=aj (HR.out.keep hb4);have Lf:=aj (HA.out.keep tO.out);have hwz:=tO.out.size;have hlb:((b.drop q).take z).length=z:=(by rw [List.length_take,List.length_drop,←HM.out];omega);have BF:=aj hlb;have ajg:q+z≤m:=ak;have hqc:q≤cap:=ak;have ajh:q+z≤cap:=ak;clear hst hw4 hb4 c1 c2 c3 OR hzb HO HR HC HST j1 j2 j3 hlb;obtain ⟨oq,cq,hcase⟩:∃ oq cq,((q<cap∧¬ cap=q∧¬ cap≤q)∧oq=off+q∧cq=cap-q)∨(cap-q=0∧cap≤q∧oq=off∧cq=0):=(by by_cases h:q<cap;{exact ⟨_,_,Or.inl ⟨⟨h,ak,ak⟩,rfl,rfl⟩⟩};{exact ⟨_,_,Or.inr ⟨ak,ak,rfl,rfl⟩⟩});have Lg:=aj (show bN w4 (.slice (some ⟨bb,oq,none⟩) z cq) ((b.drop q).take z) by
             rcases hcase with ⟨h1,rfl,rfl⟩ | ⟨h0,h1,rfl,rfl⟩;{exact Lb Lf.out q z _ _ rfl ak ak (by unfold maxLen;omega)}
             · have hz0:z=0:=ak;subst hz0;rw [List.take_zero];exact ⟨_,_,rfl,Nat.zero_le _,by unfold maxLen;omega,(fun h=>by cases h),Or.inl rfl⟩)
            generalize (b.drop q).take z=body at *;obtain ⟨r,hr⟩:=aB (q+z);have hrI:(q:Int)+(z:Int)=(r:Int):=ak;have hrW:IntKind.i64.wrap (r:Int)=(r:Int):=IntWalk.i64_in _ ak;have aji:IntKind.i64.wrap (id:Int)=(id:Int):=IntWalk.i64_in _ ak;have hqr:q≤r:=ak;have hrc:r≤cap:=ak;have hrz:r-q=z:=ak;have Lr:=aj hr;clear hr;rcases hcase with ⟨⟨hq1,hq2,hq3⟩,rfl,rfl⟩ | ⟨hq0,hq1,rfl,rfl⟩;case' inr=>obtain rfl:q=cap:=ak;clear hq0 hq1
            all_goals
             go_upto_region 15 with fail
             have hblt:bb<w4.heap.size:=lt_of_cell c0
             have hbne:bb≠w4.heap.size:=ak
             go_region_law (first
              | (refine wu (by rfl) (.tmp 70) (.tmp 76) 32 (by rfl) w4.heap.size 5 iu _ 1 1 underlying32 hi hz0 hz1 hz2 rfl aL (.slice (some ⟨w4.heap.size,0,none⟩) 0 0) 0 [] (by rfl) (World.ownsRow_made w4.drew #[] 0 aF (by unfold maxLen;omega) rfl) ⟨bb,_,none⟩ z _ (body.map aM) (by rw [List.length_map,BF.out,Nat.mul_one]) (by rfl) (ahJ (Lg.out.keep ((Below.refl _ _).drew.alloc aF _))) ?o1 ?b1 ?b2 ?b3 ?_
                 case o1=>(intro u hu;obtain ⟨c,_,rfl⟩:=List.mem_map.1 hu;rfl)
                 case b1=>(unfold maxLen;omega)
                 case b2=>omega
                 case b3=>(simp)
                 intro v1 w1 g1 g2 g3
                 have HB1:=aj (show Below w4.heap.size w4 w1 from ((Below.refl w4.heap.size w4).drew.alloc aF _).grown g2 aI (fun k hk=>by
                  simp only [Value.ownBlock,Option.some.injEq] at hk;omega))
                 have G1:=aj (show w1.ownsRow w4.heap.size 5 1 v1 z (body.map aM) by simpa using g1)
                 obtain ⟨a1,q1,rfl,_,_,_,_⟩:=rF G1.out
                 have kw1:=aD HB1.out c0
                 clear g1 g2 g3)
              | (refine wu (by rfl) (.tmp 65) (.tmp 79) 58 (by rfl) W.heap.size 56 is _ 2 32 underlying58 hsi hsz0 hsz1 hsz2 rfl aL v i A (by rfl) ((xI jA.out HB1.out).alloc _) ⟨w1.heap.size,0,none⟩ 1 1 [.int .i64 id,.slice a1 z q1] rfl (by rfl) ?c2 ?o2 ?b4 ?b5 ?b6 ?_
                 case c2=>(intro j u hj;rw [gG rfl,Nat.zero_add,fD];simpa using hj)
                 case o2=>(intro u hu;simp at hu;rcases hu with rfl | rfl <;> rfl)
                 case b4=>(unfold maxLen;omega)
                 case b5=>omega
                 case b6=>(have:=HB1.out.size;simp;omega)
                 intro v2 w2 g1 g2 g3
                 have G2:=aj g1
                 have GG:=aj g2
                 have GM:=aj g3
                 clear g1 g2 g3)
              | fail)
             all_goals
              have hbz:=tO.out.size
              have HB2:=aj (show Below W.heap.size W w2 from ((aJ tO.out HB1.out).alloc (by have:=HB1.out.size;omega) _).grown GG.out (by have:=HB1.out.size;simp;omega) (fun k hk=>(jA.out.lt k hk).1))
              have HR2:=aj (show pY W.heap.size w2 v2 (D++[(((id:Nat):Int),body)]) (A++[.int .i64 id,.slice a1 z q1]) from
               ((HR4.out.keep HB1.out).keep ((Below.refl w1.heap.size w1).alloc aF _)).snoc (((id:Nat):Int),body) (.slice a1 z q1) (by rw [HD.out.1];exact HD.out.2.1)
                 (((UU G1.out BF.out.symm).keep ((Below.refl w1.heap.size w1).alloc aF _)).beside hbz (fun k hk=>(jA.out.lt k hk).2)) GG.out GM.out)
              have HD2:=aj (show ((D++[(((id:Nat):Int),body)]).length=i+1∧(A++[Value.int .i64 id,.slice a1 z q1]).length=(i+1)*2∧r=9+7*x+Bx.sizes (D++[(((id:Nat):Int),body)])) by
               have h1:=HD.out.1
               have h2:=HD.out.2.1
               have h3:=HD.out.2.2
               have h4:=Lr.out
               have h5:=BF.out
               rw [ahK,List.length_append,List.length_append]
               refine ⟨by rw [h1];rfl,by rw [h2];show i*2+2=_;omega,by show r=9+7*x+(Bx.sizes D+body.length);omega⟩)
              have AA:=aj (show Bx.fq b x 6 (9+7*x)=(Bx.fq b (x-(i+1)) (6+7*(i+1)) r).map ((D++[(((id:Nat):Int),body)])++·) by rw [Lr.out];exact gM.out)
              clear HB1 G1 kw1 GG GM gM HR4 jA
              go_wp2
              go_roundw
              case rel=>exact ⟨i+1,r,v2,_,_,ak,aN,by have:=Lr.out;omega,aN,rfl,HD2,G2,HR2,AA,HB2⟩
              case measure=>simp [intOf];omega
          · have hst:=HST.out;rw [if_neg ak] at hst;have HF:=aj (show Bx.iq b=none by rw [FB.out,Lp.out,HC.out,hst];rfl);have hzb:decide (((m:Int)-(q:Int))<(z:Int))=true:=decide_eq_true ak;clear hst;go_wp2;go_ret2
            exact ⟨bn eB.out _,Or.inl ⟨HF.out,rfl⟩⟩
        · obtain rfl:i=x:=ak;have hfin:=HC.out;rw [Nat.sub_self,Bx.fq,Option.map_some,List.append_nil] at hfin;obtain ⟨hDl,Ls⟩:=jY.out _ _ _ _ hfin;have Wh:=HD.out.2.2;have hU:=FB.out;rw [Lp.out,hfin] at hU;simp only at hU;have HU:=aj hU;have HDB:=aj Ls;have BI:Bx.Bytes D:=fun s hs=>(Ls s hs).2.2;have tH:=aj BI;have BJ:=aj (HR.out.secs (by rw [hDl];exact HO.out));obtain ⟨a6,c6,hv6,_⟩:=fP.open BJ.out.it;subst hv6;rw [hDl] at BJ ⊢;have hsz:Bx.sizes D≤90000:=ak;have HLEN:=aj (Bx.sZ D);have jX:=aj (BD D BI);clear hfin Ls hU BI HC Lp FB HR HO jY HD;by_cases hM:Bx.May D
          · have PK:=aj (KH a6 i c6 D wr hDl.symm BJ.out.it ak hsz hM tH.out);have pE:=aj hM;clear hM hDl Wh hsz;generalize Bx.total D=T at *;generalize hF:Bx.file D=F at *;have Wi:=aj hF;clear hF;(go_upto_region 18 with (go_at_call 28;refine PK.out.mono ?_;rintro e w2 ⟨v2,rfl,hB2,hown⟩));have HB2:=aj hB2;have KV1:=mP (P:=prog) underlying32 underlying5 underlying9 w2 _ F (tC hown HLEN.out.symm);have KV2:=mP (P:=prog) underlying32 underlying5 underlying9 w2 _ b (HA.out.keep (aJ eB.out hB2));have SE:=aj (KD jX.out HB.out);generalize strOf F=S1 at *;generalize strOf b=S2 at *;clear hown hB2 PK;by_cases heq:F=b
            · have HE:=aj (show Bx.iq b=some D by rw [HU.out,if_pos ⟨pE.out,heq⟩]);have se:(S1.toList==S2.toList)=true:=(by rw [SE.out];exact decide_eq_true heq);clear heq HU HLEN jX Wi;go_wp2;go_ret2
              exact ⟨aJ eB.out HB2.out,Or.inr ⟨_,D,HE.out,rfl,BJ.out.keep HB2.out⟩⟩
            · have HE:=aj (show Bx.iq b=none by rw [HU.out,if_neg (fun h=>heq h.2)]);have se:(S1.toList==S2.toList)=false:=(by rw [SE.out];exact decide_eq_false heq);clear heq HU HLEN jX Wi;go_wp2;go_ret2
              exact ⟨aJ eB.out HB2.out,Or.inl ⟨HE.out,rfl⟩⟩
          · have HE:=aj (show Bx.iq b=none by rw [HU.out,if_neg (fun h=>hM h.1)]);have PK:=aj (agy a6 i c6 D wr hDl.symm BJ.out.it ak hsz (fun s hs=>by have:=HDB.out s hs;omega) hM);clear hM HU hDl Wh hsz;(go_wp2_with (go_at_call 28;refine PK.out.mono ?_;rintro e w2 ⟨rfl,hB2⟩));go_ret2
            exact ⟨aJ eB.out hB2,Or.inl ⟨HE.out,rfl⟩⟩
end Go.Proofs.YtjaebndajhppgaaGreatDoor
