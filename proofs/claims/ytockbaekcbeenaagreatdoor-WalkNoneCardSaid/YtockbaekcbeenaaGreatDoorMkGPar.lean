/-GPar-/
import Derived.Test.YtockbaekcbeenaaGreatDoorMkHd1
import Derived.Test.YtockbaekcbeenaaGreatDoorMkGTri
import Derived.Test.YtockbaekcbeenaaGreatDoorMkPrOne
import Derived.Test.YtockbaekcbeenaaGreatDoorMkGSort
import Derived.WalkMore
set_option linter.unusedVariables false
set_option linter.unusedSimpArgs false
set_option maxRecDepth 100000
set_option maxHeartbeats 8000000
namespace Go.Proofs.YtockbaekcbeenaaGreatDoor
open Go.Proofs.Tryz
open Go.ChangeShapes Go.WideShapes Go.ChangeAt Go.RowKit
def yS (L:List dD):Bool:=L.all dD.is
theorem ael (n1 n2 n3:Nat) (t1 x1 t2 x2 t3 x3:List UInt8):dX (n1:Nat) t1 x1 (n2:Nat) t2 x2 (n3:Nat) t3 x3=Tm.bf ((n1,t1,x1),(n2,t2,x2),n3,t3,x3):=by unfold dX Tm.bf Tm.dH;simp only;congr 1;congr 1;{congr 1;apply propext;omega};{congr 1;apply propext;omega}
theorem aem {L:List dD} (h:yS L=true):∃ M:List TR,L=M.map aY∧∀ t∈M,Tm.bf t=true:=by
 unfold yS at h;rw [List.all_eq_true] at h;induction L with
 | nil=>exact ⟨[],rfl,fun t ht=>by cases ht⟩
 | cons a L ih=>obtain ⟨M,hM,hMt⟩:=ih (fun t ht=>h t (by simp [ht]));have ha:=h a aH;obtain ⟨k1,t1,x1,k2,t2,x2,k3,t3,x3⟩:=a;have hi:dX k1 t1 x1 k2 t2 x2 k3 t3 x3=true:=ha;have hi2:=hi;unfold dX at hi2;simp only [Bool.and_eq_true,decide_eq_true_eq] at hi2;obtain ⟨n1,e1,_,_⟩:=Tm.iD hi2.2.1.1;obtain ⟨n2,e2,_,_⟩:=Tm.iD hi2.2.1.2;obtain ⟨n3,e3,_,_⟩:=Tm.iD hi2.2.2;subst e1;subst e2;subst e3;refine ⟨((n1,t1,x1),(n2,t2,x2),n3,t3,x3)::M,by rw [hM];rfl,fun t ht=>?_⟩;rcases List.mem_cons.1 ht with rfl | ht;{have:=ael n1 n2 n3 t1 x1 t2 x2 t3 x3;rw [←this];exact hi};{exact hMt t ht}
theorem aen (a b:List UInt8):(⟨a.toArray⟩:ByteArray)++⟨b.toArray⟩=⟨(a++b).toArray⟩:=by apply ByteArray.ext;simp
theorem aeo (t:TR):Tm.gN t++[10]=Tm.aO t.1.1 t.1.2.1 t.1.2.2++[32]++Tm.aO t.2.1.1 t.2.1.2.1 t.2.1.2.2++[32]++Tm.aO t.2.2.1 t.2.2.2.1 t.2.2.2.2++[32,46,10]:=by unfold Tm.gN;simp
theorem aep (L:List TR) (hl:∀ t∈L,Tm.bf t=true) (hn:L.length≤1000000) (w:World) (v:Value) (hv:b_ w v (L.map aY)) :
  Calls prog 35 #[v] w fun e w'=>e=.returned (aA (Tm.jv L))∧Below w.heap.size w w':=by
 obtain ⟨a,cap,rfl,hc1,hc2,hc3⟩:=hv.open;have HV:=aj hv;have HL:=aj hl;rw [List.length_map] at HV ⊢;obtain ⟨n,hn0⟩:=aC L.length;rw [←hn0] at HV hn ⊢;have HN:=aj hn0;clear hv hl hc1 hc2 hc3 hn0;go_enter func35,ntmps35;go_wp2;go_loopg [3,4] n (fun gk s3 s4 wr=>∃ (i:Nat) (s:List UInt8),s3=aA s∧s4=.int .i64 i∧i≤n∧n-i≤gk∧Hid (Below w.heap.size w wr)∧Hid (s=Tm.jv (L.take i))∧s.length≤801*i)
 case atStart=>exact ⟨0,[],rfl,rfl,Nat.zero_le _,Nat.le_refl _,Below.refl _ _,aj rfl,aH⟩
 case round=>
  obtain ⟨i,s,rfl,rfl,hin,hg,HB,HS,hsl⟩:=hrel;by_cases hlt:i<n
  · have hltz:(i:Int)<(n:Int):=ay;have dz:i<L.length:=(by rw [←HN.out];exact hlt);have HT1:=aj (HL.out L[i] (List.getElem_mem dz));have jB:=aj (HV.out.keep HB.out);obtain ⟨bl,off,rfl,hrow⟩:=jB.out.get (i:=i) (by rw [List.length_map];exact dz);have HRW:=aj (hrow i (by rw [List.length_map];exact dz));rw [List.getElem_map] at HRW;have iJ:=aj (show Tm.jv (L.take (i+1))=Tm.jv (L.take i)++(Tm.gN L[i]++[10]) by rw [List.take_add_one,List.getElem?_eq_getElem dz];exact Tm.aa3 _ _);obtain ⟨t,ht⟩:=aC (L[i]);rw [←ht] at HT1 HRW iJ;obtain ⟨p1,p2,q1,q2,q3⟩:=Tm.rR HT1.out;have b1:=Tm.iV q1;have b2:=Tm.iV q2;have b3:=Tm.iV q3;obtain ⟨e1,f1,g1,h1⟩:=Tm.iD q1;obtain ⟨e2,f2,g2,h2⟩:=Tm.iD q2;obtain ⟨e3,f3,g3,h3⟩:=Tm.iD q3;have LP:=aj (aeo t);obtain ⟨⟨n1,t1,x1⟩,⟨n2,t2,x2⟩,n3,t3,x3⟩:=t;simp only at b1 b2 b3 f1 f2 f3;have S1:=aj (fun W=>yw n1 t1 x1 W ay ay ay);have S2:=aj (fun W=>yw n2 t2 x2 W ay ay ay);have S3:=aj (fun W=>yw n3 t3 x3 W ay ay ay);simp only at LP;obtain ⟨y1,hy1⟩:=aC (Tm.aO n1 t1 x1);obtain ⟨y2,hy2⟩:=aC (Tm.aO n2 t2 x2);obtain ⟨y3,hy3⟩:=aC (Tm.aO n3 t3 x3);rw [←hy1] at S1 LP b1;rw [←hy2] at S2 LP b2;rw [←hy3] at S3 LP b3;have d1:=b1.1;have d2:=b2.1;have d3:=b3.1;clear ht hrow q1 q2 q3 p1 p2 b1 b2 b3 e1 f1 g1 h1 e2 f2 g2 h2 e3 f3 g3 h3 hy1 hy2 hy3;have c0:=HRW.out 0 ay;have c1:=HRW.out 1 ay;have c2:=HRW.out 2 ay;have c3:=HRW.out 3 ay;have c4:=HRW.out 4 ay;have c5:=HRW.out 5 ay;have c6:=HRW.out 6 ay;have c7:=HRW.out 7 ay;have c8:=HRW.out 8 ay;simp only [aY,dD.cells,List.getElem?_cons_zero,List.getElem?_cons_succ,Nat.add_zero] at c0 c1 c2 c3 c4 c5 c6 c7 c8;have k0:=fun p:Later wr.heap.size wr=>p.keep c0;have k1:=fun p:Later wr.heap.size wr=>p.keep c1;have k2:=fun p:Later wr.heap.size wr=>p.keep c2;have k3:=fun p:Later wr.heap.size wr=>p.keep c3;have k4:=fun p:Later wr.heap.size wr=>p.keep c4;have k5:=fun p:Later wr.heap.size wr=>p.keep c5;have k6:=fun p:Later wr.heap.size wr=>p.keep c6;have k7:=fun p:Later wr.heap.size wr=>p.keep c7;have k8:=fun p:Later wr.heap.size wr=>p.keep c8;have l1:(s++y1).length≤900000000:=(by rw [List.length_append];omega);have l2:(s++y1++[32]).length≤900000000:=(by simp only [List.length_append,List.length_cons,List.length_nil];omega);have l3:(s++y1++[32]++y2).length≤900000000:=(by simp only [List.length_append,List.length_cons,List.length_nil];omega);have l4:(s++y1++[32]++y2++[32]).length≤900000000:=(by simp only [List.length_append,List.length_cons,List.length_nil];omega);have l5:(s++y1++[32]++y2++[32]++y3).length≤900000000:=(by simp only [List.length_append,List.length_cons,List.length_nil];omega);(go_upto_region 5 with fail);refine dP wr.heap.size aF aF ?_;(repeat (go_big_quiet_step (first | (go_at_call 48;with_reducible exact Later.call aG (S1.out _)) | (go_at_call 48;with_reducible exact Later.call aG (S2.out _)) | (go_at_call 48;with_reducible exact Later.call aG (S3.out _)))));refine wpQuiet_nil ?_;rintro wq ⟨q,hq⟩;have d_:=aj (show Below w.heap.size w wq by rw [hq];exact aI HB.out q.low);have iq:=aj (show s++y1++[32]++y2++[32]++y3++[32,46,10]=Tm.jv (L.take (i+1)) by rw [iJ.out,LP.out,←HS.out];simp only [List.append_assoc]);clear hq q k0 k1 k2 k3 k4 k5 k6 k7 k8;go_wp2;go_roundg (n-(i+1))
    (case measure=>omega);case rel=>exact ⟨i+1,s++y1++[32]++y2++[32]++y3++[32,46,10],by simp [aA,aen],aN,ay,ay,d_.out,iq.out,by simp only [List.length_append,List.length_cons,List.length_nil];omega⟩
  {obtain rfl:i=n:=ay;have hltz:¬ (i:Int)<(i:Int):=ay;have HE:=aj (show s=Tm.jv L by rw [HS.out,HN.out,List.take_length]);go_wp2;go_ret;exact ⟨by rw [←HE.out];rfl,HB.out⟩}
theorem aer (s:List UInt8) (w:World) (hs:s.length≤1000000) (hM:rH w) :
  Calls prog 78 #[aA s] w fun e w'=>e=.returned (.tuple #[aA (Tm.gP s).1,aA (Tm.gP s).2])∧∃ n,w'=w.drewN n:=by
 have CT:=aj (fun (W:World) (h:rH W)=>Tryz.strings_Cut ⟨s.toArray⟩ ⟨([10]:List UInt8).toArray⟩ h.choose W (by simp [ByteArray.size];omega) h.choose_spec);have hlen:(Lib.cut s [10]).1.length≤s.length:=by unfold Lib.cut;split <;> simp;omega
 obtain ⟨l,r,b,hc⟩:∃ l r b,Lib.cut s [10]=(l,r,b):=⟨_,_,_,rfl⟩;have Sq:Hid (∀ W,rH W→Calls prog 96 #[aA s,aA [10]] W fun e w'=>e=.returned (.tuple #[aA l,aA r,.bool b])∧∃ n,w'=W.drewN n):=by intro W h;have:=CT.out W h;simp only [List.toList_toArray] at this;rw [hc] at this;exact this
 rw [hc] at hlen;have HP:=aj (show Tm.gP s=if b=true then (Lib.trimSuffix l [13],r) else (l,r) by unfold Tm.gP;rw [hc]);have TM:=aj (fun W=>Tryz.strings_TrimSuffix ⟨l.toArray⟩ ⟨([13]:List UInt8).toArray⟩ W (by simp [ByteArray.size];simp only at hlen;omega));have TM2:Hid (∀ W,Calls prog 97 #[aA l,aA [13]] W fun e w'=>e=.returned (aA (Lib.trimSuffix l [13]))∧w'=W):=TM;have HM:=aj hM;clear CT hlen hc hM TM;cases b
 · have HQ:=aj (show Tm.gP s=(l,r) from HP.out);rw [HQ.out];go_enter func78,ntmps78;(go_wp2_with fail);refine (Sq.out _ HM.out).mono ?_;rintro e w2 ⟨rfl,n,rfl⟩;go_wp2;go_ret2
   exact ⟨rfl,n,rfl⟩
 · have HQ:=aj (show Tm.gP s=(Lib.trimSuffix l [13],r) from HP.out);rw [HQ.out];go_enter func78,ntmps78;(go_wp2_with fail);refine (Sq.out _ HM.out).mono ?_;rintro e w2 ⟨rfl,n,rfl⟩;(go_wp2_with fail);refine (TM2.out _).mono ?_;rintro e w3 ⟨rfl,rfl⟩;go_wp2;go_ret2
   exact ⟨rfl,n,rfl⟩
def cZ (l:List TR):List Value:=l.flatMap fun t=>(aY t).cells
theorem aes (l:List TR) (t:TR):cZ (l++[t])=cZ l++(aY t).cells:=by simp [cZ]
theorem KL:∀ (D:List TR) (i c:Nat) (hi:i<D.length),c<9→(cZ D)[i*9+c]?=(aY D[i]).cells[c]?
 | [],i,c,hi,_=>by simp at hi
 | p::D,0,c,hi,hc=>by
  show ((aY p).cells++cZ D)[0*9+c]?=_
  rw [List.getElem?_append_left (by show _<9;omega),Nat.zero_mul,Nat.zero_add];rfl
 | p::D,i+1,c,hi,hc=>by
  show ((aY p).cells++cZ D)[(i+1)*9+c]?=_
  rw [List.getElem?_append_right (by show 9≤_;omega),show (i+1)*9+c-(aY p).cells.length=i*9+c by show _-9=_;omega]
  exact KL D i c (by simpa using hi) hc
theorem KM {w:World} {B:Nat} {v:Value} {l:List TR} (h:w.ownsRow B 65 9 v l.length (cZ l)):b_ w v (l.map aY):=by rcases h.2 with ⟨rfl,h0⟩ | ⟨g,cap,cur,hv,hg,hh,hnc,hcm,hcs,htake⟩;{have:l=[]:=List.eq_nil_of_length_eq_zero h0;subst this;exact b_.nil w};{subst hv;refine ⟨_,cap,by rw [List.length_map],by rw [List.length_map];exact hnc,hcm,(fun h=>by cases h),.inr ⟨g,0,rfl,fun i hi c hc=>?_⟩⟩;have hi':i<l.length:=(by simpa using hi);have Qm:c<(aY l[i]).cells.length:=hc;have h1:=KL l i c hi' hc;rw [Nat.zero_add,List.getElem_map,←h1];rw [h.cellAt (i*9+c) ay]}
theorem uN (p:TR):∀ u∈(aY p).cells,u.oneCell'=true:=by intro u hu;simp [dD.cells,aY] at hu;rcases hu with rfl | rfl | rfl | rfl | rfl | rfl | rfl | rfl | rfl <;> rfl
theorem KN (W:World) (p:TR):∀ ad,some (⟨W.heap.size,0,none⟩:Addr)=some ad→∀ j u,((aY p).cells)[j]?=some u→(W.alloc (.cells (aY p).cells.toArray 65)).cell? (ad.add j)=some u:=by intro ad had j u hu;cases had;rw [lG rfl,Nat.zero_add,kK,←Array.getElem?_toList];exact hu
theorem aeu {s:List UInt8} {t:TR} (h:Tm.one s=some (some t)):Tm.bf t=true:=by unfold Tm.one at h;split at h;{cases h};{split at h;{cases h};{split at h;{cases h};{split at h;{rename_i hh;simp only [Option.some.injEq] at h;subst h;exact hh.2};{cases h}}}}
theorem aev:rQ ((0,[],[]),(0,[],[]),0,[],[]):=⟨⟨Nat.zero_le _,Nat.zero_le _,Nat.zero_le _⟩,⟨Nat.zero_le _,Nat.zero_le _,Nat.zero_le _⟩,Nat.zero_le _,Nat.zero_le _,Nat.zero_le _⟩
def Sr (w:World) (r:Nat×Nat×List TR) (e:Ending) (w':World):Prop:=
 ∃ v,e=.returned (.tuple #[v,.int .i64 (r.2.1:Nat),.int .i64 (r.1:Nat)])∧b_ w' v ((if r.1=0 then Tm.eH r.2.2 else []).map aY)∧Below w.heap.size w w'
theorem KO {w w':World} {E N:Nat} {l:List TR} {n e:Nat} (hE:E=e) (he:e≠0) (hN:N=n) (hB:Below w.heap.size w w'):Sr w (E,N,l) (.returned (.tuple #[.slice none 0 0,.int .i64 (n:Nat),.int .i64 (e:Nat)])) w':=by subst hE;subst hN;exact ⟨_,rfl,by simp only [if_neg he];exact b_.nil _,hB⟩
theorem aew (s:List UInt8) (w:World) (hV:d9 w) (hE:cu w) (hl:s.length≤20000) (R:Nat×Nat×List TR) (Ci:Tm.iW s 0 []=R) :
  Calls prog 50 #[aA s] w (Sr w R):=by
 have hmm:=@run_makeMap prog;have HV:=aj hV;have HE:=aj hE;have HA:=aj Ci;have PO:=aj (fun (u:List UInt8) (W:World) hV hE hu=>aek u W hV hE hu);have CU:=aj (fun (u:List UInt8) (W:World) hu hM=>aer u W hu hM);have HB0:=aj (show Below w.heap.size w (w.alloc (.map #[] 0)) from (Below.refl _ _).alloc aG _);have wB:=aj (show (w.alloc (.map #[] 0)).ownsMap prog 65 Go.unitElem w.heap.size 0 (fV []) from World.ownsMap_made _ _ _ _);clear hV hE Ci;go_enter func50,ntmps50;go_wp2;go_step3
 go_wp2;go_step3
 go_wp2;go_loopg [0,5,6,8,9,10,11,12,13,14] s.length (fun gk s0 s5 s6 s8 s9 s10 s11 s12 s13 Ep wr=>∃ (u:List UInt8) (n:Nat) (l:List TR),s0=aA u∧s5=.int .i64 n∧u.length≤gk∧u.length≤s.length∧n≤200∧l.length≤n∧Hid (∀ t∈l,Tm.bf t=true)∧Hid (Below w.heap.size w wr)∧Hid (wr.ownsMap prog 65 Go.unitElem w.heap.size n (fV l))∧Hid (wr.ownsRow (w.heap.size+1) 65 9 s6 l.length (cZ l))∧Hid (Tm.iW u n l=R))
 case atStart=>exact ⟨s,0,[],rfl,rfl,Nat.le_refl _,Nat.le_refl _,ay,Nat.le_refl _,aj (fun t h=>by cases h),HB0,wB,World.ownsRow_nil _ _ _ _,HA⟩
 case round=>
  obtain ⟨u,n,l,rfl,rfl,hg,hul,hn,hln,jX,HB,HM,HR,HP⟩:=hrel;have ow:=HM.out.lt;rcases u with _ | ⟨c,v⟩
  · have HF:=aj (show R=(0,n,l) from HP.out.symm);have SO:=aj (ac7 l jX.out ay wr u6 (KM HR.out));(go_wp2_with fail);refine SO.out.mono ?_;rintro e w2 ⟨v2,rfl,hv2,hlow⟩;have dK:=aj hv2;have HB2:=aj (aI HB.out hlow);clear hv2 hlow;go_wp2;go_ret3
    rw [HF.out];exact ⟨v2,rfl,dK.out,HB2.out⟩
  · have hu:(c::v:List UInt8)≠[]:=aH;have hue:((c::v:List UInt8) != [])=true:=rfl;have hcl:=Tm.Jp hu;have HS:=aj (Tm.Qq hu n l);have yT:=aj (CU.out (c::v) wr ay ((HV.out.keep HB.out).2));have hc1:(Tm.gP (c::v)).1.length≤1000000:=(by have:=Tm.aaX (c::v);omega);obtain ⟨cl,cr,hcc⟩:∃ cl cr,Tm.gP (c::v)=(cl,cr):=⟨_,_,rfl⟩;rw [hcc] at yT HS hcl hc1;have sw:=aj (fun W hV hE=>PO.out cl W hV hE hc1);clear hu hcc;by_cases FX:200<n+1
    · have hz:(200:Int)<(n:Int)+1:=ay;have HF:=aj (show R=(3,n+1,[]) by have h:=HP.out;rw [HS.out,if_pos FX] at h;exact h.symm);(go_wp2_with fail);refine yT.out.mono ?_;rintro e w2 ⟨rfl,nq,rfl⟩;go_wp2;rw [Exit.noGoto_ret];go_ret3
      rw [HF.out];exact KO rfl aL rfl (bV HB.out _)
    · have hz:(n:Int)+1≤200:=ay;cases ho:Tm.one cl with
      | none=>
       have HF:=aj (show R=(2,n+1,[]) by have h:=HP.out;rw [HS.out,if_neg FX] at h;simp only [ho] at h;exact h.symm);rw [ho] at sw;have yU:Hid (∀ W,d9 W→cu W→Calls prog 79 #[aA cl] W fun e w'=>e=.returned (.tuple #[.agg z9.toArray,.bool false,.bool false])∧Below W.heap.size W w'):=sw;clear ho sw;(go_wp2_with fail);refine yT.out.mono ?_;rintro e w2 ⟨rfl,nq,hw2⟩;have HB2:=aj (show Below w.heap.size w w2 by rw [hw2];exact bV HB.out _);clear hw2;(go_wp2_with fail);refine (yU.out _ (HV.out.keep HB2.out) (HE.out.keep HB2.out)).mono ?_;rintro e w3 ⟨rfl,hlow⟩;have HB3:=aj (aI HB2.out hlow);clear hlow;go_wp2;rw [Exit.noGoto_ret];go_ret3
       rw [HF.out];exact KO rfl aL rfl (HB3.out.alloc HB3.out.size _)
      | some o=>
       cases o with
       | none=>
        have HF:=aj (show Tm.iW cr (n+1) l=R by have h:=HP.out;rw [HS.out,if_neg FX] at h;simp only [ho] at h;exact h);rw [ho] at sw;obtain ⟨t,FY,yU⟩:∃ t:TR,Hid (rQ t)∧Hid (∀ W,d9 W→cu W→Calls prog 79 #[aA cl] W fun e w'=>e=.returned (.tuple #[rP t,.bool false,.bool true])∧Below W.heap.size W w'):=⟨((0,[],[]),(0,[],[]),0,[],[]),aev,sw⟩;obtain ⟨⟨n1,t1,x1⟩,⟨n2,t2,x2⟩,n3,t3,x3⟩:=t;have HK:=aj (show keyOf prog 65 (rP ((n1,t1,x1),(n2,t2,x2),n3,t3,x3))=some (kS ((n1,t1,x1),(n2,t2,x2),n3,t3,x3)) from yu FY.out);obtain ⟨b,hb⟩:=aC (Maps.has (fV l) (kS ((n1,t1,x1),(n2,t2,x2),n3,t3,x3)));have eU:=aj hb;clear ho sw hb;cases b;all_goals
         go_wp2_with fail
         refine yT.out.mono ?_
         rintro e w2 ⟨rfl,nq,hw2⟩
         have HB2:=aj (show Below w.heap.size w w2 by rw [hw2];exact bV HB.out _)
         have uO:=aj (show w2.ownsMap prog 65 Go.unitElem w.heap.size n (fV l) by rw [hw2];exact HM.out)
         have HR2:=aj (show w2.ownsRow (w.heap.size+1) 65 9 u6 l.length (cZ l) by rw [hw2];exact HR.out)
         clear hw2
         go_wp2_with fail
         refine (yU.out _ (HV.out.keep HB2.out) (HE.out.keep HB2.out)).mono ?_
         rintro e w3 ⟨rfl,hlow⟩
         have HB3:=aj (aI HB2.out hlow)
         have uF:=aj (FB uO.out hlow)
         have HR3:=aj (FE HR2.out hlow)
         clear hlow
         have aP:=aj (show Below w.heap.size w (aX w3 n1 t1 x1 n2 t2 x2 n3 t3 x3) from HB3.out.alloc HB3.out.size _)
         have gT:=aj (show (aX w3 n1 t1 x1 n2 t2 x2 n3 t3 x3).ownsMap prog 65 Go.unitElem w.heap.size n (fV l) from uF.out.alloc _)
         have HR4:=aj (show (aX w3 n1 t1 x1 n2 t2 x2 n3 t3 x3).ownsRow (w.heap.size+1) 65 9 u6 l.length (cZ l) from HR3.out.alloc _)
         have bX:=aj (iU w3 n1 t1 x1 n2 t2 x2 n3 t3 x3)
         go_upto_region 15 with fail
         show Code.wp _ _ _ _ (aX w3 n1 t1 x1 n2 t2 x2 n3 t3 x3)
         obtain ⟨w4,hw4⟩:=aC (aX w3 n1 t1 x1 n2 t2 x2 n3 t3 x3)
         rw [←hw4] at aP gT HR4 bX ⊢
         clear hw4
         obtain ⟨c0,c1,c2,c3,c4,c5,c6,c7,c8⟩:=fB bX.out
         go_upto_region 16 with (at_lookup;refine wpList_lookup_own_unit _ rfl _ _ 144 rfl 65 149 rO underlying144 (Bw _) w.heap.size n (fV l) rfl gT.out _ _ rfl HK.out ?_;rw [←eU.out])
         clear c0 c1 c2 c3 c4 c5 c6 c7 c8
         have aQ:=aj (aP.out.alloc aP.out.size (.cells #[] 149))
         have iX:=aj (gT.out.alloc (.cells #[] 149))
         have bU:=aj (HR4.out.alloc (.cells #[] 149))
         have lV:=aj (bX.out.alloc (.cells #[] 149))
         generalize w4.alloc (.cells #[] 149)=w5 at aQ iX bU lV ⊢
         go_wp2
         go_roundg cr.length
         case measure=>omega
         case rel=>exact ⟨cr,n+1,l,rfl,aN,Nat.le_refl _,ay,ay,ay,jX.out,aQ.out,Kc iX.out,bU.out,HF.out⟩
       | some t=>
        have HT1:=aj (aeu ho);have FY:=aj (Bz HT1.out);have HST:=aj (show (if t∈l then Tm.iW cr (n+1) l else if l.length=100 then (3,n+1,[]) else Tm.iW cr (n+1) (l++[t]))=R by have h:=HP.out;rw [HS.out,if_neg FX] at h;simp only [ho] at h;exact h);rw [ho] at sw;obtain ⟨⟨n1,t1,x1⟩,⟨n2,t2,x2⟩,n3,t3,x3⟩:=t;have yU:Hid (∀ W,d9 W→cu W→Calls prog 79 #[aA cl] W fun e w'=>e=.returned (.tuple #[gu (n1:Nat) t1 x1 (n2:Nat) t2 x2 (n3:Nat) t3 x3,.bool true,.bool true])∧Below W.heap.size W w'):=sw;have HK:=aj (show keyOf prog 65 (rP ((n1,t1,x1),(n2,t2,x2),n3,t3,x3))=some (kS ((n1,t1,x1),(n2,t2,x2),n3,t3,x3)) from yu FY.out);obtain ⟨b,hb⟩:=aC (Maps.has (fV l) (kS ((n1,t1,x1),(n2,t2,x2),n3,t3,x3)));have eU:=aj hb;have jf:=aj (show b=decide (((n1,t1,x1),(n2,t2,x2),n3,t3,x3)∈l) by rw [hb];exact ED (fun s hs=>Bz (jX.out s hs)) FY.out);clear ho sw hb;cases b
        · have Sv:=aj (of_decide_eq_false jf.out.symm);(go_wp2_with fail);refine yT.out.mono ?_;rintro e w2 ⟨rfl,nq,hw2⟩;have HB2:=aj (show Below w.heap.size w w2 by rw [hw2];exact bV HB.out _);have uO:=aj (show w2.ownsMap prog 65 Go.unitElem w.heap.size n (fV l) by rw [hw2];exact HM.out);have HR2:=aj (show w2.ownsRow (w.heap.size+1) 65 9 u6 l.length (cZ l) by rw [hw2];exact HR.out);clear hw2;(go_wp2_with fail);refine (yU.out _ (HV.out.keep HB2.out) (HE.out.keep HB2.out)).mono ?_;rintro e w3 ⟨rfl,hlow⟩;have HB3:=aj (aI HB2.out hlow);have uF:=aj (FB uO.out hlow);have HR3:=aj (FE HR2.out hlow);clear hlow;have aP:=aj (show Below w.heap.size w (aX w3 n1 t1 x1 n2 t2 x2 n3 t3 x3) from HB3.out.alloc HB3.out.size _);have gT:=aj (show (aX w3 n1 t1 x1 n2 t2 x2 n3 t3 x3).ownsMap prog 65 Go.unitElem w.heap.size n (fV l) from uF.out.alloc _);have HR4:=aj (show (aX w3 n1 t1 x1 n2 t2 x2 n3 t3 x3).ownsRow (w.heap.size+1) 65 9 u6 l.length (cZ l) from HR3.out.alloc _);have bX:=aj (iU w3 n1 t1 x1 n2 t2 x2 n3 t3 x3);(go_upto_region 15 with fail);show Code.wp _ _ _ _ (aX w3 n1 t1 x1 n2 t2 x2 n3 t3 x3);obtain ⟨w4,hw4⟩:=aC (aX w3 n1 t1 x1 n2 t2 x2 n3 t3 x3);rw [←hw4] at aP gT HR4 bX ⊢;clear hw4;obtain ⟨c0,c1,c2,c3,c4,c5,c6,c7,c8⟩:=fB bX.out;(go_upto_region 16 with (at_lookup;refine wpList_lookup_own_unit _ rfl _ _ 144 rfl 65 149 rO underlying144 (Bw _) w.heap.size n (fV l) rfl gT.out _ _ rfl HK.out ?_;rw [←eU.out]));clear c0 c1 c2 c3 c4 c5 c6 c7 c8;have aQ:=aj (aP.out.alloc aP.out.size (.cells #[] 149));have iX:=aj (gT.out.alloc (.cells #[] 149));have bU:=aj (HR4.out.alloc (.cells #[] 149));have lV:=aj (bX.out.alloc (.cells #[] 149));generalize w4.alloc (.cells #[] 149)=w5 at aQ iX bU lV ⊢;obtain ⟨a6,cap6,KP⟩:∃ a6 cap6,u6=.slice a6 l.length cap6:=(by obtain ⟨a6,cap6,h,_⟩:=(KM bU.out).open;rw [List.length_map] at h;exact ⟨a6,cap6,h⟩);obtain ⟨m,hm⟩:=aC l.length;rw [←hm] at KP hln bU;have uH:=aj hm;clear hm;by_cases KQ:m=100
          · have HF:=aj (show R=(3,n+1,[]) by have h:=HST.out;rw [if_neg Sv.out,if_pos (by rw [←uH.out];exact KQ)] at h;exact h.symm);subst KQ;subst KP;go_wp2;rw [Exit.noGoto_ret];go_ret3
            rw [HF.out];exact KO rfl aL rfl aQ.out
          · have HF:=aj (show Tm.iW cr (n+1) (l++[((n1,t1,x1),(n2,t2,x2),n3,t3,x3)])=R by have h:=HST.out;rw [if_neg Sv.out,if_neg (by rw [←uH.out];exact KQ)] at h;exact h);have ahF:((m:Int)==100)=false:=beq_eq_false_iff_ne.2 ay;subst KP;obtain ⟨c0,c1,c2,c3,c4,c5,c6,c7,c8⟩:=fB lV.out;(go_upto_region 20 with (at_mapUpdate;refine wpList_mapUpdate_own _ rfl _ _ _ 144 rfl 65 149 rO underlying144 _ w.heap.size n (fV l) rfl iX.out (by unfold maxLen;omega) _ _ _ rfl rfl HK.out (.agg []) [] Go.unitElem_mk ?_;intro w6 uz mX));have aR:=aj (aQ.out.grown mX aQ.out.size (fun k hk=>by cases hk;omega));have oN:=aj (show w6.ownsMap prog 65 Go.unitElem w.heap.size (n+1) (fV (l++[((n1,t1,x1),(n2,t2,x2),n3,t3,x3)])) by rw [Ql];exact uz);have nP:=aj (bU.out.kept mX (.inr (fun e=>by have:=bU.out.lt _ e;omega)));have gF:=aj (lV.out.map mX (Ro iX.out lV.out));clear uz mX c0 c1 c2 c3 c4 c5 c6 c7 c8;obtain ⟨c0,c1,c2,c3,c4,c5,c6,c7,c8⟩:=fB gF.out;obtain ⟨iS,hi0,dx,dN,dO⟩:=FI;have je:=aR.out.size;(go_wp2_with (at_builtin;refine nD rfl (.tmp 59) (.tmp 61) 22 rfl (w.heap.size+1) 65 iS _ 9 120 underlying22 hi0 dx dN dO rfl aL _ _ _ rfl (nP.out.alloc _) (some ⟨w6.heap.size,0,none⟩) 1 1 (aY ((n1,t1,x1),(n2,t2,x2),n3,t3,x3)).cells rfl (fun h=>by cases h) rfl (KN w6 ((n1,t1,x1),(n2,t2,x2),n3,t3,x3)) (uN ((n1,t1,x1),(n2,t2,x2),n3,t3,x3)) (by unfold maxLen;omega) ay (by simp;omega) ?_));intro v8 w8 g1 g2 g3;have nO:∀ k,(Value.slice a6 m cap6).ownBlock=some k→w.heap.size+1≤k:=fun k hk=>(nP.out.lt k hk).1;have bC:=aj ((aR.out.alloc je _).grown g2 (by simp;omega) (fun k hk=>by have:=nO k hk;omega));have Kq:=aj ((oN.out.alloc _).kept g2 (fun e=>by have:=nO _ e.symm;omega));have oO:=aj (show w8.ownsRow (w.heap.size+1) 65 9 v8 (l++[((n1,t1,x1),(n2,t2,x2),n3,t3,x3)]).length (cZ (l++[((n1,t1,x1),(n2,t2,x2),n3,t3,x3)])) by rw [aes,List.length_append,←uH.out];exact g1);clear g1 g2 g3 nO;go_wp2;go_roundg cr.length
            (case measure=>omega);case rel=>exact ⟨cr,n+1,_,rfl,aN,Nat.le_refl _,ay,ay,by rw [List.length_append,←uH.out];simp only [List.length_cons,List.length_nil];omega,by
             show ∀ s∈_,_;intro s hs;rcases List.mem_append.1 hs with hs | hs;{exact jX.out s hs}
             · rw [List.mem_singleton.1 hs];exact HT1.out,bC.out,Kq.out,oO.out,HF.out⟩
        · have HF:=aj (show Tm.iW cr (n+1) l=R by have h:=HST.out;rw [if_pos (of_decide_eq_true jf.out.symm)] at h;exact h);(go_wp2_with fail);refine yT.out.mono ?_;rintro e w2 ⟨rfl,nq,hw2⟩;have HB2:=aj (show Below w.heap.size w w2 by rw [hw2];exact bV HB.out _);have uO:=aj (show w2.ownsMap prog 65 Go.unitElem w.heap.size n (fV l) by rw [hw2];exact HM.out);have HR2:=aj (show w2.ownsRow (w.heap.size+1) 65 9 u6 l.length (cZ l) by rw [hw2];exact HR.out);clear hw2;(go_wp2_with fail);refine (yU.out _ (HV.out.keep HB2.out) (HE.out.keep HB2.out)).mono ?_;rintro e w3 ⟨rfl,hlow⟩;have HB3:=aj (aI HB2.out hlow);have uF:=aj (FB uO.out hlow);have HR3:=aj (FE HR2.out hlow);clear hlow;have aP:=aj (show Below w.heap.size w (aX w3 n1 t1 x1 n2 t2 x2 n3 t3 x3) from HB3.out.alloc HB3.out.size _);have gT:=aj (show (aX w3 n1 t1 x1 n2 t2 x2 n3 t3 x3).ownsMap prog 65 Go.unitElem w.heap.size n (fV l) from uF.out.alloc _);have HR4:=aj (show (aX w3 n1 t1 x1 n2 t2 x2 n3 t3 x3).ownsRow (w.heap.size+1) 65 9 u6 l.length (cZ l) from HR3.out.alloc _);have bX:=aj (iU w3 n1 t1 x1 n2 t2 x2 n3 t3 x3);(go_upto_region 15 with fail);show Code.wp _ _ _ _ (aX w3 n1 t1 x1 n2 t2 x2 n3 t3 x3);obtain ⟨w4,hw4⟩:=aC (aX w3 n1 t1 x1 n2 t2 x2 n3 t3 x3);rw [←hw4] at aP gT HR4 bX ⊢;clear hw4;obtain ⟨c0,c1,c2,c3,c4,c5,c6,c7,c8⟩:=fB bX.out;(go_upto_region 16 with (at_lookup;refine wpList_lookup_own_unit _ rfl _ _ 144 rfl 65 149 rO underlying144 (Bw _) w.heap.size n (fV l) rfl gT.out _ _ rfl HK.out ?_;rw [←eU.out]));clear c0 c1 c2 c3 c4 c5 c6 c7 c8;have aQ:=aj (aP.out.alloc aP.out.size (.cells #[] 149));have iX:=aj (gT.out.alloc (.cells #[] 149));have bU:=aj (HR4.out.alloc (.cells #[] 149));have lV:=aj (bX.out.alloc (.cells #[] 149));generalize w4.alloc (.cells #[] 149)=w5 at aQ iX bU lV ⊢;go_wp2;go_roundg cr.length
          (case measure=>omega);case rel=>exact ⟨cr,n+1,l,rfl,aN,Nat.le_refl _,ay,ay,ay,jX.out,aQ.out,Kc iX.out,bU.out,HF.out⟩
end Go.Proofs.YtockbaekcbeenaaGreatDoor
