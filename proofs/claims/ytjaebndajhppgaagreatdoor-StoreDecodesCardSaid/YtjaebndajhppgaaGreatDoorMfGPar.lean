/-GPar-/
import Derived.Test.YtjaebndajhppgaaGreatDoorMfHd1
import Derived.Test.YtjaebndajhppgaaGreatDoorMfGTri
import Derived.Test.YtjaebndajhppgaaGreatDoorMfPrOne
import Derived.Test.YtjaebndajhppgaaGreatDoorMfGSort
import Derived.WalkMore
set_option linter.unusedVariables false
set_option linter.unusedSimpArgs false
set_option maxRecDepth 100000
set_option maxHeartbeats 8000000
namespace Go.Proofs.YtjaebndajhppgaaGreatDoor
open Go.Proofs.Tryz
open Go.ChangeShapes Go.WideShapes Go.ChangeAt Go.RowKit
theorem R6 (B b:Nat) (bs:List Value) (s:List UInt8) (w:World) (h:Lib.IsBuilder 174 5 B b bs w) (hlen:bs.length+s.length≤140737488355328) (hB:B≤w.heap.size) :
  Calls prog 109 #[.pointer (some ⟨b,0,none⟩),aA s] w fun e w'=>(∃ n:Int,e=.returned (.tuple #[.int .i64 n,.nilIface]))∧Lib.BuilderAt 174 5 B b (.pointer (some ⟨b,0,none⟩)) (bs++Lib.byteCells s) w'∧Below B w w':=by have L:Lays.n166 prog Tryz.lays156_ren:={ Tryz.lays156 with };refine (Any.Builder_WriteString L Tryz.Builder_Extra_156 B b bs ⟨s.toArray⟩ w h (by simpa [ByteArray.size] using hlen) hB).mono ?_;rintro e w' ⟨he,h1,h2⟩;exact ⟨⟨_,he⟩,h1,h2⟩
theorem R7 {B b:Nat} {p:Value} {bs:List Value} {w w':World} (h:Lib.BuilderAt 174 5 B b p bs w) (hb:Below w.heap.size w w'):Lib.BuilderAt 174 5 B b p bs w':=by have hlt:=h.lt;obtain ⟨h1,v,h2,h3,h4⟩:=h;refine ⟨h1,v,?_,h3.kept (row:=none) ⟨hb.os,hb.tape,hb.output,hb.size,fun k hk _=>hb.block k hk⟩ ?_,h4⟩;{rw [hb.block b hlt];exact h2};{cases v.ownBlock <;> simp}
theorem Jq {B b:Nat} {bs:List Value} {w w':World} (h:Lib.IsBuilder 174 5 B b bs w) (hb:Below w.heap.size w w'):Lib.IsBuilder 174 5 B b bs w':=by rcases h with h | h;{exact .inl (R7 h hb)};{exact .inr (R7 h hb)}
theorem aeG (b:Nat) (a1 a2 a3:List UInt8) (w:World) (h:aC w b [aA a1,aA a2,aA a3] 9) (h1:a1.length≤10000000000) (h2:a2.length≤10000000000) (h3:a3.length≤10000000000) :
  Calls prog 110 #[.slice (some ⟨b,0,none⟩) 3 3,aA [32]] w fun e w'=>e=.returned (aA (a1++32::(a2++32::a3)))∧Below w.heap.size w w':=by
 have hj:Lib.join ([⟨a1.toArray⟩,⟨a2.toArray⟩,⟨a3.toArray⟩].map (fun x:ByteArray=>x.data.toList)) (⟨([32]:List UInt8).toArray⟩:ByteArray).data.toList=a1++32::(a2++32::a3):=by simp [Lib.join,List.intercalate]
 have:=Tryz.strings_Join b 0 3 [⟨a1.toArray⟩,⟨a2.toArray⟩,⟨a3.toArray⟩] ⟨([32]:List UInt8).toArray⟩ w (by
  intro j x hx;match j,hx with
  | 0,hx=>simp only [List.getElem?_cons_zero,Option.some.injEq] at hx;rw [←hx];exact h.cell (i:=0) rfl
  | 1,hx=>simp only [List.getElem?_cons_succ,List.getElem?_cons_zero,Option.some.injEq] at hx;rw [←hx];exact h.cell (i:=1) rfl
  | 2,hx=>simp only [List.getElem?_cons_succ,List.getElem?_cons_zero,Option.some.injEq] at hx;rw [←hx];exact h.cell (i:=2) rfl
  | j+3,hx=>simp at hx) h.lt aI aI (by rw [hj];simp only [List.length_append,List.length_cons];omega)
 rw [hj] at this;exact this
theorem R8 (a b:List UInt8):Lib.byteCells a++Lib.byteCells b=Lib.byteCells (a++b):=by simp [Lib.byteCells]
def kF (L:List dZ):Bool:=L.all dZ.is
theorem aeH (a b:List UInt8):(⟨a.toArray⟩:ByteArray)++⟨b.toArray⟩=⟨(a++b).toArray⟩:=by apply ByteArray.ext;simp
theorem R9 (t:TR):Tm.iY t++[10]=Tm.aS t.1.1 t.1.2.1 t.1.2.2++[32]++Tm.aS t.2.1.1 t.2.1.2.1 t.2.1.2.2++[32]++Tm.aS t.2.2.1 t.2.2.2.1 t.2.2.2.2++[32,46,10]:=by unfold Tm.iY;simp
theorem aeI (L:List TR) (hl:∀ t∈L,Tm.aZ t=true) (hn:L.length≤1000000) (w:World) (v:Value) (hv:bJ w v (L.map aV)) :
  Calls prog 21 #[v] w fun e w'=>e=.returned (aA (Tm.iZ L))∧Below w.heap.size w w':=by
 obtain ⟨a,cap,rfl,hc1,hc2,hc3⟩:=hv.open;have HV:=aj hv;have HL:=aj hl;rw [List.length_map] at HV ⊢;obtain ⟨n,hn0⟩:=aB L.length;rw [←hn0] at HV hn ⊢;have HN:=aj hn0;clear hv hl hc1 hc2 hc3 hn0;go_enter func21,ntmps21;go_wp2;go_loopg [3,4] n (fun gk s3 s4 wr=>∃ (i:Nat) (s:List UInt8),s3=aA s∧s4=.int .i64 i∧i≤n∧n-i≤gk∧Hid (Below w.heap.size w wr)∧Hid (s=Tm.iZ (L.take i))∧s.length≤801*i)
 case atStart=>exact ⟨0,[],rfl,rfl,Nat.zero_le _,Nat.le_refl _,Below.refl _ _,aj rfl,aI⟩
 case round=>
  obtain ⟨i,s,rfl,rfl,hin,hg,HB,HS,hsl⟩:=hrel;by_cases hlt:i<n
  · have hltz:(i:Int)<(n:Int):=ak;have bK:i<L.length:=(by rw [←HN.out];exact hlt);have HT1:=aj (HL.out L[i] (List.getElem_mem bK));have iJ:=aj (HV.out.keep HB.out);obtain ⟨bl,off,rfl,hrow⟩:=iJ.out.get (i:=i) (by rw [List.length_map];exact bK);have HRW:=aj (hrow i (by rw [List.length_map];exact bK));rw [List.getElem_map] at HRW;have jV:=aj (show Tm.iZ (L.take (i+1))=Tm.iZ (L.take i)++(Tm.iY L[i]++[10]) by rw [List.take_add_one,List.getElem?_eq_getElem bK];exact Tm.Oe _ _);obtain ⟨t,ht⟩:=aB (L[i]);rw [←ht] at HT1 HRW jV;obtain ⟨p1,p2,q1,q2,q3⟩:=Tm.qp HT1.out;have b1:=Tm.gQ q1;have b2:=Tm.gQ q2;have b3:=Tm.gQ q3;obtain ⟨e1,f1,g1,h1⟩:=Tm.gZ q1;obtain ⟨e2,f2,g2,h2⟩:=Tm.gZ q2;obtain ⟨e3,f3,g3,h3⟩:=Tm.gZ q3;have LP:=aj (R9 t);obtain ⟨⟨n1,t1,x1⟩,⟨n2,t2,x2⟩,n3,t3,x3⟩:=t;simp only at b1 b2 b3 f1 f2 f3;have S1:=aj (fun W=>uw n1 t1 x1 W ak ak ak);have S2:=aj (fun W=>uw n2 t2 x2 W ak ak ak);have S3:=aj (fun W=>uw n3 t3 x3 W ak ak ak);simp only at LP;obtain ⟨y1,hy1⟩:=aB (Tm.aS n1 t1 x1);obtain ⟨y2,hy2⟩:=aB (Tm.aS n2 t2 x2);obtain ⟨y3,hy3⟩:=aB (Tm.aS n3 t3 x3);rw [←hy1] at S1 LP b1;rw [←hy2] at S2 LP b2;rw [←hy3] at S3 LP b3;have d1:=b1.1;have d2:=b2.1;have d3:=b3.1;clear ht hrow q1 q2 q3 p1 p2 b1 b2 b3 e1 f1 g1 h1 e2 f2 g2 h2 e3 f3 g3 h3 hy1 hy2 hy3;have c0:=HRW.out 0 ak;have c1:=HRW.out 1 ak;have c2:=HRW.out 2 ak;have c3:=HRW.out 3 ak;have c4:=HRW.out 4 ak;have c5:=HRW.out 5 ak;have c6:=HRW.out 6 ak;have c7:=HRW.out 7 ak;have c8:=HRW.out 8 ak;simp only [aV,dZ.cells,List.getElem?_cons_zero,List.getElem?_cons_succ,Nat.add_zero] at c0 c1 c2 c3 c4 c5 c6 c7 c8;have k0:=fun p:Later wr.heap.size wr=>p.keep c0;have k1:=fun p:Later wr.heap.size wr=>p.keep c1;have k2:=fun p:Later wr.heap.size wr=>p.keep c2;have k3:=fun p:Later wr.heap.size wr=>p.keep c3;have k4:=fun p:Later wr.heap.size wr=>p.keep c4;have k5:=fun p:Later wr.heap.size wr=>p.keep c5;have k6:=fun p:Later wr.heap.size wr=>p.keep c6;have k7:=fun p:Later wr.heap.size wr=>p.keep c7;have k8:=fun p:Later wr.heap.size wr=>p.keep c8;have l1:(s++y1).length≤900000000:=(by rw [List.length_append];omega);have l2:(s++y1++[32]).length≤900000000:=(by simp only [List.length_append,List.length_cons,List.length_nil];omega);have l3:(s++y1++[32]++y2).length≤900000000:=(by simp only [List.length_append,List.length_cons,List.length_nil];omega);have l4:(s++y1++[32]++y2++[32]).length≤900000000:=(by simp only [List.length_append,List.length_cons,List.length_nil];omega);have l5:(s++y1++[32]++y2++[32]++y3).length≤900000000:=(by simp only [List.length_append,List.length_cons,List.length_nil];omega);(go_upto_region 5 with fail);refine fV wr.heap.size aG aG ?_;(repeat (go_big_quiet_step (first | (go_at_call 63;with_reducible exact Later.call aF (S1.out _)) | (go_at_call 63;with_reducible exact Later.call aF (S2.out _)) | (go_at_call 63;with_reducible exact Later.call aF (S3.out _)))));refine wpQuiet_nil ?_;rintro wq ⟨q,hq⟩;have gY:=aj (show Below w.heap.size w wq by rw [hq];exact aJ HB.out q.low);have oz:=aj (show s++y1++[32]++y2++[32]++y3++[32,46,10]=Tm.iZ (L.take (i+1)) by rw [jV.out,LP.out,←HS.out];simp only [List.append_assoc]);clear hq q k0 k1 k2 k3 k4 k5 k6 k7 k8;go_wp2;go_roundg (n-(i+1))
    (case measure=>omega);case rel=>exact ⟨i+1,s++y1++[32]++y2++[32]++y3++[32,46,10],by simp [aA,aeH],aN,ak,ak,gY.out,oz.out,by simp only [List.length_append,List.length_cons,List.length_nil];omega⟩
  {obtain rfl:i=n:=ak;have hltz:¬ (i:Int)<(i:Int):=ak;have HE:=aj (show s=Tm.iZ L by rw [HS.out,HN.out,List.take_length]);go_wp2;go_ret;exact ⟨by rw [←HE.out];rfl,HB.out⟩}
theorem aeJ (s:List UInt8) (w:World) (hs:s.length≤1000000) (hM:qd w) :
  Calls prog 83 #[aA s] w fun e w'=>e=.returned (.tuple #[aA (Tm.gI s).1,aA (Tm.gI s).2])∧∃ n,w'=w.drewN n:=by
 have CT:=aj (fun (W:World) (h:qd W)=>Tryz.strings_Cut ⟨s.toArray⟩ ⟨([10]:List UInt8).toArray⟩ h.choose W (by simp [ByteArray.size];omega) h.choose_spec);have hlen:(Lib.cut s [10]).1.length≤s.length:=by unfold Lib.cut;split <;> simp;omega
 obtain ⟨l,r,b,hc⟩:∃ l r b,Lib.cut s [10]=(l,r,b):=⟨_,_,_,rfl⟩;have R_:Hid (∀ W,qd W→Calls prog 120 #[aA s,aA [10]] W fun e w'=>e=.returned (.tuple #[aA l,aA r,.bool b])∧∃ n,w'=W.drewN n):=by intro W h;have:=CT.out W h;simp only [List.toList_toArray] at this;rw [hc] at this;exact this
 rw [hc] at hlen;have HP:=aj (show Tm.gI s=if b=true then (Lib.trimSuffix l [13],r) else (l,r) by unfold Tm.gI;rw [hc]);have TM:=aj (fun W=>Tryz.strings_TrimSuffix ⟨l.toArray⟩ ⟨([13]:List UInt8).toArray⟩ W (by simp [ByteArray.size];simp only at hlen;omega));have TM2:Hid (∀ W,Calls prog 121 #[aA l,aA [13]] W fun e w'=>e=.returned (aA (Lib.trimSuffix l [13]))∧w'=W):=TM;have HM:=aj hM;clear CT hlen hc hM TM;cases b
 · have HQ:=aj (show Tm.gI s=(l,r) from HP.out);rw [HQ.out];go_enter func83,ntmps83;(go_wp2_with fail);refine (R_.out _ HM.out).mono ?_;rintro e w2 ⟨rfl,n,rfl⟩;go_wp2;go_ret2
   exact ⟨rfl,n,rfl⟩
 · have HQ:=aj (show Tm.gI s=(Lib.trimSuffix l [13],r) from HP.out);rw [HQ.out];go_enter func83,ntmps83;(go_wp2_with fail);refine (R_.out _ HM.out).mono ?_;rintro e w2 ⟨rfl,n,rfl⟩;(go_wp2_with fail);refine (TM2.out _).mono ?_;rintro e w3 ⟨rfl,rfl⟩;go_wp2;go_ret2
   exact ⟨rfl,n,rfl⟩
def bR (l:List TR):List Value:=l.flatMap fun t=>(aV t).cells
theorem Sb (l:List TR) (t:TR):bR (l++[t])=bR l++(aV t).cells:=by simp [bR]
theorem EA:∀ (D:List TR) (i c:Nat) (hi:i<D.length),c<9→(bR D)[i*9+c]?=(aV D[i]).cells[c]?
 | [],i,c,hi,_=>by simp at hi
 | p::D,0,c,hi,hc=>by
  show ((aV p).cells++bR D)[0*9+c]?=_
  rw [List.getElem?_append_left (by show _<9;omega),Nat.zero_mul,Nat.zero_add];rfl
 | p::D,i+1,c,hi,hc=>by
  show ((aV p).cells++bR D)[(i+1)*9+c]?=_
  rw [List.getElem?_append_right (by show 9≤_;omega),show (i+1)*9+c-(aV p).cells.length=i*9+c by show _-9=_;omega]
  exact EA D i c (by simpa using hi) hc
theorem Ay {w:World} {B:Nat} {v:Value} {l:List TR} (h:w.ownsRow B 67 9 v l.length (bR l)):bJ w v (l.map aV):=by rcases h.2 with ⟨rfl,h0⟩ | ⟨g,cap,cur,hv,hg,hh,hnc,hcm,hcs,htake⟩;{have:l=[]:=List.eq_nil_of_length_eq_zero h0;subst this;exact bJ.nil w};{subst hv;refine ⟨_,cap,by rw [List.length_map],by rw [List.length_map];exact hnc,hcm,(fun h=>by cases h),.inr ⟨g,0,rfl,fun i hi c hc=>?_⟩⟩;have hi':i<l.length:=(by simpa using hi);have hc9:c<(aV l[i]).cells.length:=hc;have h1:=EA l i c hi' hc;rw [Nat.zero_add,List.getElem_map,←h1];rw [h.cellAt (i*9+c) ak]}
theorem pI (p:TR):∀ u∈(aV p).cells,u.oneCell'=true:=by intro u hu;simp [dZ.cells,aV] at hu;rcases hu with rfl | rfl | rfl | rfl | rfl | rfl | rfl | rfl | rfl <;> rfl
theorem EB (W:World) (p:TR):∀ ad,some (⟨W.heap.size,0,none⟩:Addr)=some ad→∀ j u,((aV p).cells)[j]?=some u→(W.alloc (.cells (aV p).cells.toArray 67)).cell? (ad.add j)=some u:=by intro ad had j u hu;cases had;rw [gG rfl,Nat.zero_add,fD,←Array.getElem?_toList];exact hu
theorem Sc {s:List UInt8} {t:TR} (h:Tm.one s=some (some t)):Tm.aZ t=true:=by unfold Tm.one at h;split at h;{cases h};{split at h;{cases h};{split at h;{cases h};{split at h;{rename_i hh;simp only [Option.some.injEq] at h;subst h;exact hh.2};{cases h}}}}
theorem aeK:qo ((0,[],[]),(0,[],[]),0,[],[]):=⟨⟨Nat.zero_le _,Nat.zero_le _,Nat.zero_le _⟩,⟨Nat.zero_le _,Nat.zero_le _,Nat.zero_le _⟩,Nat.zero_le _,Nat.zero_le _,Nat.zero_le _⟩
def Sd (w:World) (r:Nat×Nat×List TR) (e:Ending) (w':World):Prop:=
 ∃ v,e=.returned (.tuple #[v,.int .i64 (r.2.1:Nat),.int .i64 (r.1:Nat)])∧bJ w' v ((if r.1=0 then Tm.gu r.2.2 else []).map aV)∧Below w.heap.size w w'
theorem Jr {w w':World} {E N:Nat} {l:List TR} {n e:Nat} (hE:E=e) (he:e≠0) (hN:N=n) (hB:Below w.heap.size w w'):Sd w (E,N,l) (.returned (.tuple #[.slice none 0 0,.int .i64 (n:Nat),.int .i64 (e:Nat)])) w':=by subst hE;subst hN;exact ⟨_,rfl,by simp only [if_neg he];exact bJ.nil _,hB⟩
theorem aeL (s:List UInt8) (w:World) (hV:dF w) (hE:cu w) (hl:s.length≤20000) (R:Nat×Nat×List TR) (Az:Tm.jH s 0 []=R) :
  Calls prog 42 #[aA s] w (Sd w R):=by
 have hmm:=@run_makeMap prog;have HV:=aj hV;have HE:=aj hE;have HA:=aj Az;have PO:=aj (fun (u:List UInt8) (W:World) hV hE hu=>Jp u W hV hE hu);have CU:=aj (fun (u:List UInt8) (W:World) hu hM=>aeJ u W hu hM);have HB0:=aj (show Below w.heap.size w (w.alloc (.map #[] 0)) from (Below.refl _ _).alloc aF _);have uP:=aj (show (w.alloc (.map #[] 0)).ownsMap prog 67 Go.unitElem w.heap.size 0 (fF []) from World.ownsMap_made _ _ _ _);clear hV hE Az;go_enter func42,ntmps42;go_wp2;go_step3
 go_wp2;go_step3
 go_wp2;go_loopg [0,5,6,8,9,10,11,12,13,14] s.length (fun gk s0 s5 s6 s8 s9 s10 s11 s12 s13 Ck wr=>∃ (u:List UInt8) (n:Nat) (l:List TR),s0=aA u∧s5=.int .i64 n∧u.length≤gk∧u.length≤s.length∧n≤200∧l.length≤n∧Hid (∀ t∈l,Tm.aZ t=true)∧Hid (Below w.heap.size w wr)∧Hid (wr.ownsMap prog 67 Go.unitElem w.heap.size n (fF l))∧Hid (wr.ownsRow (w.heap.size+1) 67 9 s6 l.length (bR l))∧Hid (Tm.jH u n l=R))
 case atStart=>exact ⟨s,0,[],rfl,rfl,Nat.le_refl _,Nat.le_refl _,ak,Nat.le_refl _,aj (fun t h=>by cases h),HB0,uP,World.ownsRow_nil _ _ _ _,HA⟩
 case round=>
  obtain ⟨u,n,l,rfl,rfl,hg,vX,hn,hln,jg,HB,HM,HR,HP⟩:=hrel;have iA:=HM.out.lt;rcases u with _ | ⟨c,v⟩
  · have HF:=aj (show R=(0,n,l) from HP.out.symm);have SO:=aj (IV l jg.out ak wr u6 (Ay HR.out));(go_wp2_with fail);refine SO.out.mono ?_;rintro e w2 ⟨v2,rfl,hv2,hlow⟩;have dU:=aj hv2;have HB2:=aj (aJ HB.out hlow);clear hv2 hlow;go_wp2;go_ret3
    rw [HF.out];exact ⟨v2,rfl,dU.out,HB2.out⟩
  · have hu:(c::v:List UInt8)≠[]:=aI;have hue:((c::v:List UInt8) != [])=true:=rfl;have hcl:=Tm.Gq hu;have HS:=aj (Tm.ZE hu n l);have xg:=aj (CU.out (c::v) wr ak ((HV.out.keep HB.out).2));have hc1:(Tm.gI (c::v)).1.length≤1000000:=(by have:=Tm.ZB (c::v);omega);obtain ⟨cl,cr,hcc⟩:∃ cl cr,Tm.gI (c::v)=(cl,cr):=⟨_,_,rfl⟩;rw [hcc] at xg HS hcl hc1;have qR:=aj (fun W hV hE=>PO.out cl W hV hE hc1);clear hu hcc;by_cases EC:200<n+1
    · have hz:(200:Int)<(n:Int)+1:=ak;have HF:=aj (show R=(3,n+1,[]) by have h:=HP.out;rw [HS.out,if_pos EC] at h;exact h.symm);(go_wp2_with fail);refine xg.out.mono ?_;rintro e w2 ⟨rfl,nq,rfl⟩;go_wp2;rw [Exit.noGoto_ret];go_ret3
      rw [HF.out];exact Jr rfl aL rfl (bn HB.out _)
    · have hz:(n:Int)+1≤200:=ak;cases ho:Tm.one cl with
      | none=>
       have HF:=aj (show R=(2,n+1,[]) by have h:=HP.out;rw [HS.out,if_neg EC] at h;simp only [ho] at h;exact h.symm);rw [ho] at qR;have kG:Hid (∀ W,dF W→cu W→Calls prog 84 #[aA cl] W fun e w'=>e=.returned (.tuple #[.agg z9.toArray,.bool false,.bool false])∧Below W.heap.size W w'):=qR;clear ho qR;(go_wp2_with fail);refine xg.out.mono ?_;rintro e w2 ⟨rfl,nq,hw2⟩;have HB2:=aj (show Below w.heap.size w w2 by rw [hw2];exact bn HB.out _);clear hw2;(go_wp2_with fail);refine (kG.out _ (HV.out.keep HB2.out) (HE.out.keep HB2.out)).mono ?_;rintro e w3 ⟨rfl,hlow⟩;have HB3:=aj (aJ HB2.out hlow);clear hlow;go_wp2;rw [Exit.noGoto_ret];go_ret3
       rw [HF.out];exact Jr rfl aL rfl (HB3.out.alloc HB3.out.size _)
      | some o=>
       cases o with
       | none=>
        have HF:=aj (show Tm.jH cr (n+1) l=R by have h:=HP.out;rw [HS.out,if_neg EC] at h;simp only [ho] at h;exact h);rw [ho] at qR;obtain ⟨t,ED,kG⟩:∃ t:TR,Hid (qo t)∧Hid (∀ W,dF W→cu W→Calls prog 84 #[aA cl] W fun e w'=>e=.returned (.tuple #[qm t,.bool false,.bool true])∧Below W.heap.size W w'):=⟨((0,[],[]),(0,[],[]),0,[],[]),aeK,qR⟩;obtain ⟨⟨n1,t1,x1⟩,⟨n2,t2,x2⟩,n3,t3,x3⟩:=t;have HK:=aj (show keyOf prog 67 (qm ((n1,t1,x1),(n2,t2,x2),n3,t3,x3))=some (jG ((n1,t1,x1),(n2,t2,x2),n3,t3,x3)) from wh ED.out);obtain ⟨b,hb⟩:=aB (Maps.has (fF l) (jG ((n1,t1,x1),(n2,t2,x2),n3,t3,x3)));have dw:=aj hb;clear ho qR hb;cases b;all_goals
         go_wp2_with fail
         refine xg.out.mono ?_
         rintro e w2 ⟨rfl,nq,hw2⟩
         have HB2:=aj (show Below w.heap.size w w2 by rw [hw2];exact bn HB.out _)
         have jW:=aj (show w2.ownsMap prog 67 Go.unitElem w.heap.size n (fF l) by rw [hw2];exact HM.out)
         have HR2:=aj (show w2.ownsRow (w.heap.size+1) 67 9 u6 l.length (bR l) by rw [hw2];exact HR.out)
         clear hw2
         go_wp2_with fail
         refine (kG.out _ (HV.out.keep HB2.out) (HE.out.keep HB2.out)).mono ?_
         rintro e w3 ⟨rfl,hlow⟩
         have HB3:=aj (aJ HB2.out hlow)
         have l8:=aj (En jW.out hlow)
         have HR3:=aj (wP HR2.out hlow)
         clear hlow
         have aT:=aj (show Below w.heap.size w (aW w3 n1 t1 x1 n2 t2 x2 n3 t3 x3) from HB3.out.alloc HB3.out.size _)
         have iD:=aj (show (aW w3 n1 t1 x1 n2 t2 x2 n3 t3 x3).ownsMap prog 67 Go.unitElem w.heap.size n (fF l) from l8.out.alloc _)
         have HR4:=aj (show (aW w3 n1 t1 x1 n2 t2 x2 n3 t3 x3).ownsRow (w.heap.size+1) 67 9 u6 l.length (bR l) from HR3.out.alloc _)
         have bH:=aj (f_ w3 n1 t1 x1 n2 t2 x2 n3 t3 x3)
         go_upto_region 15 with fail
         show Code.wp _ _ _ _ (aW w3 n1 t1 x1 n2 t2 x2 n3 t3 x3)
         obtain ⟨w4,hw4⟩:=aB (aW w3 n1 t1 x1 n2 t2 x2 n3 t3 x3)
         rw [←hw4] at aT iD HR4 bH ⊢
         clear hw4
         obtain ⟨c0,c1,c2,c3,c4,c5,c6,c7,c8⟩:=dQ bH.out
         go_upto_region 16 with (at_lookup;refine wpList_lookup_own_unit _ rfl _ _ 137 rfl 67 142 ql underlying137 (z_ _) w.heap.size n (fF l) rfl iD.out _ _ rfl HK.out ?_;rw [←dw.out])
         clear c0 c1 c2 c3 c4 c5 c6 c7 c8
         have aO:=aj (aT.out.alloc aT.out.size (.cells #[] 142))
         have ji:=aj (iD.out.alloc (.cells #[] 142))
         have dz:=aj (HR4.out.alloc (.cells #[] 142))
         have fE:=aj (bH.out.alloc (.cells #[] 142))
         generalize w4.alloc (.cells #[] 142)=w5 at aO ji dz fE ⊢
         go_wp2
         go_roundg cr.length
         case measure=>omega
         case rel=>exact ⟨cr,n+1,l,rfl,aN,Nat.le_refl _,ak,ak,ak,jg.out,aO.out,IJ ji.out,dz.out,HF.out⟩
       | some t=>
        have HT1:=aj (Sc ho);have ED:=aj (Aa HT1.out);have HST:=aj (show (if t∈l then Tm.jH cr (n+1) l else if l.length=100 then (3,n+1,[]) else Tm.jH cr (n+1) (l++[t]))=R by have h:=HP.out;rw [HS.out,if_neg EC] at h;simp only [ho] at h;exact h);rw [ho] at qR;obtain ⟨⟨n1,t1,x1⟩,⟨n2,t2,x2⟩,n3,t3,x3⟩:=t;have kG:Hid (∀ W,dF W→cu W→Calls prog 84 #[aA cl] W fun e w'=>e=.returned (.tuple #[eD (n1:Nat) t1 x1 (n2:Nat) t2 x2 (n3:Nat) t3 x3,.bool true,.bool true])∧Below W.heap.size W w'):=qR;have HK:=aj (show keyOf prog 67 (qm ((n1,t1,x1),(n2,t2,x2),n3,t3,x3))=some (jG ((n1,t1,x1),(n2,t2,x2),n3,t3,x3)) from wh ED.out);obtain ⟨b,hb⟩:=aB (Maps.has (fF l) (jG ((n1,t1,x1),(n2,t2,x2),n3,t3,x3)));have dw:=aj hb;have Ev:=aj (show b=decide (((n1,t1,x1),(n2,t2,x2),n3,t3,x3)∈l) by rw [hb];exact C8 (fun s hs=>Aa (jg.out s hs)) ED.out);clear ho qR hb;cases b
        · have Sg:=aj (of_decide_eq_false Ev.out.symm);(go_wp2_with fail);refine xg.out.mono ?_;rintro e w2 ⟨rfl,nq,hw2⟩;have HB2:=aj (show Below w.heap.size w w2 by rw [hw2];exact bn HB.out _);have jW:=aj (show w2.ownsMap prog 67 Go.unitElem w.heap.size n (fF l) by rw [hw2];exact HM.out);have HR2:=aj (show w2.ownsRow (w.heap.size+1) 67 9 u6 l.length (bR l) by rw [hw2];exact HR.out);clear hw2;(go_wp2_with fail);refine (kG.out _ (HV.out.keep HB2.out) (HE.out.keep HB2.out)).mono ?_;rintro e w3 ⟨rfl,hlow⟩;have HB3:=aj (aJ HB2.out hlow);have l8:=aj (En jW.out hlow);have HR3:=aj (wP HR2.out hlow);clear hlow;have aT:=aj (show Below w.heap.size w (aW w3 n1 t1 x1 n2 t2 x2 n3 t3 x3) from HB3.out.alloc HB3.out.size _);have iD:=aj (show (aW w3 n1 t1 x1 n2 t2 x2 n3 t3 x3).ownsMap prog 67 Go.unitElem w.heap.size n (fF l) from l8.out.alloc _);have HR4:=aj (show (aW w3 n1 t1 x1 n2 t2 x2 n3 t3 x3).ownsRow (w.heap.size+1) 67 9 u6 l.length (bR l) from HR3.out.alloc _);have bH:=aj (f_ w3 n1 t1 x1 n2 t2 x2 n3 t3 x3);(go_upto_region 15 with fail);show Code.wp _ _ _ _ (aW w3 n1 t1 x1 n2 t2 x2 n3 t3 x3);obtain ⟨w4,hw4⟩:=aB (aW w3 n1 t1 x1 n2 t2 x2 n3 t3 x3);rw [←hw4] at aT iD HR4 bH ⊢;clear hw4;obtain ⟨c0,c1,c2,c3,c4,c5,c6,c7,c8⟩:=dQ bH.out;(go_upto_region 16 with (at_lookup;refine wpList_lookup_own_unit _ rfl _ _ 137 rfl 67 142 ql underlying137 (z_ _) w.heap.size n (fF l) rfl iD.out _ _ rfl HK.out ?_;rw [←dw.out]));clear c0 c1 c2 c3 c4 c5 c6 c7 c8;have aO:=aj (aT.out.alloc aT.out.size (.cells #[] 142));have ji:=aj (iD.out.alloc (.cells #[] 142));have dz:=aj (HR4.out.alloc (.cells #[] 142));have fE:=aj (bH.out.alloc (.cells #[] 142));generalize w4.alloc (.cells #[] 142)=w5 at aO ji dz fE ⊢;obtain ⟨a6,cap6,Js⟩:∃ a6 cap6,u6=.slice a6 l.length cap6:=(by obtain ⟨a6,cap6,h,_⟩:=(Ay dz.out).open;rw [List.length_map] at h;exact ⟨a6,cap6,h⟩);obtain ⟨m,hm⟩:=aB l.length;rw [←hm] at Js hln dz;have pE:=aj hm;clear hm;by_cases kH:m=100
          · have HF:=aj (show R=(3,n+1,[]) by have h:=HST.out;rw [if_neg Sg.out,if_pos (by rw [←pE.out];exact kH)] at h;exact h.symm);subst kH;subst Js;go_wp2;rw [Exit.noGoto_ret];go_ret3
            rw [HF.out];exact Jr rfl aL rfl aO.out
          · have HF:=aj (show Tm.jH cr (n+1) (l++[((n1,t1,x1),(n2,t2,x2),n3,t3,x3)])=R by have h:=HST.out;rw [if_neg Sg.out,if_neg (by rw [←pE.out];exact kH)] at h;exact h);have aiZ:((m:Int)==100)=false:=beq_eq_false_iff_ne.2 ak;subst Js;obtain ⟨c0,c1,c2,c3,c4,c5,c6,c7,c8⟩:=dQ fE.out;(go_upto_region 20 with (at_mapUpdate;refine wpList_mapUpdate_own _ rfl _ _ _ 137 rfl 67 142 ql underlying137 _ w.heap.size n (fF l) rfl ji.out (by unfold maxLen;omega) _ _ _ rfl rfl HK.out (.agg []) [] Go.unitElem_mk ?_;intro w6 sJ lC));have aU:=aj (aO.out.grown lC aO.out.size (fun k hk=>by cases hk;omega));have uO:=aj (show w6.ownsMap prog 67 Go.unitElem w.heap.size (n+1) (fF (l++[((n1,t1,x1),(n2,t2,x2),n3,t3,x3)])) by rw [Oa];exact sJ);have gD:=aj (dz.out.kept lC (.inr (fun e=>by have:=dz.out.lt _ e;omega)));have cZ:=aj (fE.out.map lC (Q0 ji.out fE.out));clear sJ lC c0 c1 c2 c3 c4 c5 c6 c7 c8;obtain ⟨c0,c1,c2,c3,c4,c5,c6,c7,c8⟩:=dQ cZ.out;obtain ⟨iS,hi0,bW,bX,bY⟩:=sI;have jf:=aU.out.size;(go_wp2_with (at_builtin;refine oI rfl (.tmp 59) (.tmp 61) 39 rfl (w.heap.size+1) 67 iS _ 9 120 underlying39 hi0 bW bX bY rfl aL _ _ _ rfl (gD.out.alloc _) (some ⟨w6.heap.size,0,none⟩) 1 1 (aV ((n1,t1,x1),(n2,t2,x2),n3,t3,x3)).cells rfl (fun h=>by cases h) rfl (EB w6 ((n1,t1,x1),(n2,t2,x2),n3,t3,x3)) (pI ((n1,t1,x1),(n2,t2,x2),n3,t3,x3)) (by unfold maxLen;omega) ak (by simp;omega) ?_));intro v8 w8 g1 g2 g3;have lZ:∀ k,(Value.slice a6 m cap6).ownBlock=some k→w.heap.size+1≤k:=fun k hk=>(gD.out.lt k hk).1;have aX:=aj ((aU.out.alloc jf _).grown g2 (by simp;omega) (fun k hk=>by have:=lZ k hk;omega));have I8:=aj ((uO.out.alloc _).kept g2 (fun e=>by have:=lZ _ e.symm;omega));have gP:=aj (show w8.ownsRow (w.heap.size+1) 67 9 v8 (l++[((n1,t1,x1),(n2,t2,x2),n3,t3,x3)]).length (bR (l++[((n1,t1,x1),(n2,t2,x2),n3,t3,x3)])) by rw [Sb,List.length_append,←pE.out];exact g1);clear g1 g2 g3 lZ;go_wp2;go_roundg cr.length
            (case measure=>omega);case rel=>exact ⟨cr,n+1,_,rfl,aN,Nat.le_refl _,ak,ak,by rw [List.length_append,←pE.out];simp only [List.length_cons,List.length_nil];omega,by
             show ∀ s∈_,_;intro s hs;rcases List.mem_append.1 hs with hs | hs;{exact jg.out s hs}
             · rw [List.mem_singleton.1 hs];exact HT1.out,aX.out,I8.out,gP.out,HF.out⟩
        · have HF:=aj (show Tm.jH cr (n+1) l=R by have h:=HST.out;rw [if_pos (of_decide_eq_true Ev.out.symm)] at h;exact h);(go_wp2_with fail);refine xg.out.mono ?_;rintro e w2 ⟨rfl,nq,hw2⟩;have HB2:=aj (show Below w.heap.size w w2 by rw [hw2];exact bn HB.out _);have jW:=aj (show w2.ownsMap prog 67 Go.unitElem w.heap.size n (fF l) by rw [hw2];exact HM.out);have HR2:=aj (show w2.ownsRow (w.heap.size+1) 67 9 u6 l.length (bR l) by rw [hw2];exact HR.out);clear hw2;(go_wp2_with fail);refine (kG.out _ (HV.out.keep HB2.out) (HE.out.keep HB2.out)).mono ?_;rintro e w3 ⟨rfl,hlow⟩;have HB3:=aj (aJ HB2.out hlow);have l8:=aj (En jW.out hlow);have HR3:=aj (wP HR2.out hlow);clear hlow;have aT:=aj (show Below w.heap.size w (aW w3 n1 t1 x1 n2 t2 x2 n3 t3 x3) from HB3.out.alloc HB3.out.size _);have iD:=aj (show (aW w3 n1 t1 x1 n2 t2 x2 n3 t3 x3).ownsMap prog 67 Go.unitElem w.heap.size n (fF l) from l8.out.alloc _);have HR4:=aj (show (aW w3 n1 t1 x1 n2 t2 x2 n3 t3 x3).ownsRow (w.heap.size+1) 67 9 u6 l.length (bR l) from HR3.out.alloc _);have bH:=aj (f_ w3 n1 t1 x1 n2 t2 x2 n3 t3 x3);(go_upto_region 15 with fail);show Code.wp _ _ _ _ (aW w3 n1 t1 x1 n2 t2 x2 n3 t3 x3);obtain ⟨w4,hw4⟩:=aB (aW w3 n1 t1 x1 n2 t2 x2 n3 t3 x3);rw [←hw4] at aT iD HR4 bH ⊢;clear hw4;obtain ⟨c0,c1,c2,c3,c4,c5,c6,c7,c8⟩:=dQ bH.out;(go_upto_region 16 with (at_lookup;refine wpList_lookup_own_unit _ rfl _ _ 137 rfl 67 142 ql underlying137 (z_ _) w.heap.size n (fF l) rfl iD.out _ _ rfl HK.out ?_;rw [←dw.out]));clear c0 c1 c2 c3 c4 c5 c6 c7 c8;have aO:=aj (aT.out.alloc aT.out.size (.cells #[] 142));have ji:=aj (iD.out.alloc (.cells #[] 142));have dz:=aj (HR4.out.alloc (.cells #[] 142));have fE:=aj (bH.out.alloc (.cells #[] 142));generalize w4.alloc (.cells #[] 142)=w5 at aO ji dz fE ⊢;go_wp2;go_roundg cr.length
          (case measure=>omega);case rel=>exact ⟨cr,n+1,l,rfl,aN,Nat.le_refl _,ak,ak,ak,jg.out,aO.out,IJ ji.out,dz.out,HF.out⟩
end Go.Proofs.YtjaebndajhppgaaGreatDoor
