/-GPar-/
import Derived.Test.YtjaebndajhppgaaGreatDoorMlHd1
import Derived.Test.YtjaebndajhppgaaGreatDoorMlGTri
import Derived.Test.YtjaebndajhppgaaGreatDoorMlPrOne
import Derived.Test.YtjaebndajhppgaaGreatDoorMlGSort
import Derived.WalkMore
set_option linter.unusedVariables false
set_option linter.unusedSimpArgs false
set_option maxRecDepth 100000
set_option maxHeartbeats 8000000
namespace Go.Proofs.YtjaebndajhppgaaGreatDoor
open Go.Proofs.Tryz
open Go.ChangeShapes Go.WideShapes Go.ChangeAt Go.RowKit
theorem NT (B b:Nat) (bs:List Value) (s:List UInt8) (w:World) (h:Lib.IsBuilder 174 5 B b bs w) (hlen:bs.length+s.length≤140737488355328) (hB:B≤w.heap.size) :
  Calls prog 109 #[.pointer (some ⟨b,0,none⟩),str s] w fun e w'=>(∃ n:Int,e=.returned (.tuple #[.int .i64 n,.nilIface]))∧Lib.BuilderAt 174 5 B b (.pointer (some ⟨b,0,none⟩)) (bs++Lib.byteCells s) w'∧Below B w w':=by have L:Lays.n166 prog Tryz.lays156_ren:={ Tryz.lays156 with };refine (Any.Builder_WriteString L Tryz.Builder_Extra_156 B b bs ⟨s.toArray⟩ w h (by simpa [ByteArray.size] using hlen) hB).mono ?_;rintro e w' ⟨he,h1,h2⟩;exact ⟨⟨_,he⟩,h1,h2⟩
theorem NU {B b:Nat} {p:Value} {bs:List Value} {w w':World} (h:Lib.BuilderAt 174 5 B b p bs w) (hb:Below w.heap.size w w'):Lib.BuilderAt 174 5 B b p bs w':=by have hlt:=h.lt;obtain ⟨h1,v,h2,h3,h4⟩:=h;refine ⟨h1,v,?_,h3.kept (row:=none) ⟨hb.os,hb.tape,hb.output,hb.size,fun k hk _=>hb.block k hk⟩ ?_,h4⟩;{rw [hb.block b hlt];exact h2};{cases v.ownBlock <;> simp}
theorem FT {B b:Nat} {bs:List Value} {w w':World} (h:Lib.IsBuilder 174 5 B b bs w) (hb:Below w.heap.size w w'):Lib.IsBuilder 174 5 B b bs w':=by rcases h with h | h;{exact .inl (NU h hb)};{exact .inr (NU h hb)}
theorem aaU (b:Nat) (a1 a2 a3:List UInt8) (w:World) (h:ak w b [str a1,str a2,str a3] 9) (h1:a1.length≤10000000000) (h2:a2.length≤10000000000) (h3:a3.length≤10000000000) :
  Calls prog 110 #[.slice (some ⟨b,0,none⟩) 3 3,str [32]] w fun e w'=>e=.returned (str (a1++32::(a2++32::a3)))∧Below w.heap.size w w':=by
 have hj:Lib.join ([⟨a1.toArray⟩,⟨a2.toArray⟩,⟨a3.toArray⟩].map (fun x:ByteArray=>x.data.toList)) (⟨([32]:List UInt8).toArray⟩:ByteArray).data.toList=a1++32::(a2++32::a3):=by simp [Lib.join,List.intercalate]
 have:=Tryz.strings_Join b 0 3 [⟨a1.toArray⟩,⟨a2.toArray⟩,⟨a3.toArray⟩] ⟨([32]:List UInt8).toArray⟩ w (by
  intro j x hx;match j,hx with
  | 0,hx=>simp only [List.getElem?_cons_zero,Option.some.injEq] at hx;rw [←hx];exact h.cell (i:=0) rfl
  | 1,hx=>simp only [List.getElem?_cons_succ,List.getElem?_cons_zero,Option.some.injEq] at hx;rw [←hx];exact h.cell (i:=1) rfl
  | 2,hx=>simp only [List.getElem?_cons_succ,List.getElem?_cons_zero,Option.some.injEq] at hx;rw [←hx];exact h.cell (i:=2) rfl
  | j+3,hx=>simp at hx) h.lt aC aC (by rw [hj];simp only [List.length_append,List.length_cons];omega)
 rw [hj] at this;exact this
theorem NV (a b:List UInt8):Lib.byteCells a++Lib.byteCells b=Lib.byteCells (a++b):=by simp [Lib.byteCells]
def nT (L:List eT):Bool:=L.all eT.is
theorem aaV (a b:List UInt8):(⟨a.toArray⟩:ByteArray)++⟨b.toArray⟩=⟨(a++b).toArray⟩:=by apply ByteArray.ext;simp
theorem NY (t:TR):Tm.um t++[10]=Tm.aX t.1.1 t.1.2.1 t.1.2.2++[32]++Tm.aX t.2.1.1 t.2.1.2.1 t.2.1.2.2++[32]++Tm.aX t.2.2.1 t.2.2.2.1 t.2.2.2.2++[32,46,10]:=by unfold Tm.um;simp
theorem aaW (L:List TR) (hl:∀ t∈L,Tm.bG t=true) (hn:L.length≤1000000) (w:World) (v:Value) (hv:bX w v (L.map bA)) :
  Calls prog 21 #[v] w fun e w'=>e=.returned (str (Tm.jo L))∧Below w.heap.size w w':=by
 obtain ⟨a,cap,rfl,hc1,hc2,hc3⟩:=hv.open;have HV:=hid hv;have HL:=hid hl;rw [List.length_map] at HV ⊢;obtain ⟨n,hn0⟩:=aA L.length;rw [←hn0] at HV hn ⊢;have HN:=hid hn0;clear hv hl hc1 hc2 hc3 hn0;go_enter func21,ntmps21;go_wp2;go_loopg [3,4] n (fun gk s3 s4 wr=>∃ (i:Nat) (s:List UInt8),s3=str s∧s4=.int .i64 i∧i≤n∧n-i≤gk∧Hid (Below w.heap.size w wr)∧Hid (s=Tm.jo (L.take i))∧s.length≤801*i)
 case atStart=>exact ⟨0,[],rfl,rfl,Nat.zero_le _,Nat.le_refl _,Below.refl _ _,hid rfl,aC⟩
 case round=>
  obtain ⟨i,s,rfl,rfl,hin,hg,HB,HS,hsl⟩:=hrel;by_cases hlt:i<n
  · have hltz:(i:Int)<(n:Int):=aj;have cZ:i<L.length:=(by rw [←HN.out];exact hlt);have HT1:=hid (HL.out L[i] (List.getElem_mem cZ));have jJ:=hid (HV.out.keep HB.out);obtain ⟨bl,off,rfl,hrow⟩:=jJ.out.get (i:=i) (by rw [List.length_map];exact cZ);have HRW:=hid (hrow i (by rw [List.length_map];exact cZ));rw [List.getElem_map] at HRW;have kN:=hid (show Tm.jo (L.take (i+1))=Tm.jo (L.take i)++(Tm.um L[i]++[10]) by rw [List.take_add_one,List.getElem?_eq_getElem cZ];exact Tm.JY _ _);obtain ⟨t,ht⟩:=aA (L[i]);rw [←ht] at HT1 HRW kN;obtain ⟨p1,p2,q1,q2,q3⟩:=Tm.pz HT1.out;have b1:=Tm.gY q1;have b2:=Tm.gY q2;have b3:=Tm.gY q3;obtain ⟨e1,f1,g1,h1⟩:=Tm.iH q1;obtain ⟨e2,f2,g2,h2⟩:=Tm.iH q2;obtain ⟨e3,f3,g3,h3⟩:=Tm.iH q3;have LP:=hid (NY t);obtain ⟨⟨n1,t1,x1⟩,⟨n2,t2,x2⟩,n3,t3,x3⟩:=t;simp only at b1 b2 b3 f1 f2 f3;have S1:=hid (fun W=>uw n1 t1 x1 W aj aj aj);have S2:=hid (fun W=>uw n2 t2 x2 W aj aj aj);have S3:=hid (fun W=>uw n3 t3 x3 W aj aj aj);simp only at LP;obtain ⟨y1,hy1⟩:=aA (Tm.aX n1 t1 x1);obtain ⟨y2,hy2⟩:=aA (Tm.aX n2 t2 x2);obtain ⟨y3,hy3⟩:=aA (Tm.aX n3 t3 x3);rw [←hy1] at S1 LP b1;rw [←hy2] at S2 LP b2;rw [←hy3] at S3 LP b3;have d1:=b1.1;have d2:=b2.1;have d3:=b3.1;clear ht hrow q1 q2 q3 p1 p2 b1 b2 b3 e1 f1 g1 h1 e2 f2 g2 h2 e3 f3 g3 h3 hy1 hy2 hy3;have c0:=HRW.out 0 aj;have c1:=HRW.out 1 aj;have c2:=HRW.out 2 aj;have c3:=HRW.out 3 aj;have c4:=HRW.out 4 aj;have c5:=HRW.out 5 aj;have c6:=HRW.out 6 aj;have c7:=HRW.out 7 aj;have c8:=HRW.out 8 aj;simp only [bA,eT.cells,List.getElem?_cons_zero,List.getElem?_cons_succ,Nat.add_zero] at c0 c1 c2 c3 c4 c5 c6 c7 c8;have k0:=fun p:Later wr.heap.size wr=>p.keep c0;have k1:=fun p:Later wr.heap.size wr=>p.keep c1;have k2:=fun p:Later wr.heap.size wr=>p.keep c2;have k3:=fun p:Later wr.heap.size wr=>p.keep c3;have k4:=fun p:Later wr.heap.size wr=>p.keep c4;have k5:=fun p:Later wr.heap.size wr=>p.keep c5;have k6:=fun p:Later wr.heap.size wr=>p.keep c6;have k7:=fun p:Later wr.heap.size wr=>p.keep c7;have k8:=fun p:Later wr.heap.size wr=>p.keep c8;have l1:(s++y1).length≤900000000:=(by rw [List.length_append];omega);have l2:(s++y1++[32]).length≤900000000:=(by simp only [List.length_append,List.length_cons,List.length_nil];omega);have l3:(s++y1++[32]++y2).length≤900000000:=(by simp only [List.length_append,List.length_cons,List.length_nil];omega);have l4:(s++y1++[32]++y2++[32]).length≤900000000:=(by simp only [List.length_append,List.length_cons,List.length_nil];omega);have l5:(s++y1++[32]++y2++[32]++y3).length≤900000000:=(by simp only [List.length_append,List.length_cons,List.length_nil];omega);(go_upto_region 5 with fail);refine gM wr.heap.size aD aD ?_;(repeat (go_big_quiet_step (first | (go_at_call 63;with_reducible exact Later.call ay (S1.out _)) | (go_at_call 63;with_reducible exact Later.call ay (S2.out _)) | (go_at_call 63;with_reducible exact Later.call ay (S3.out _)))));refine wpQuiet_nil ?_;rintro wq ⟨q,hq⟩;have ig:=hid (show Below w.heap.size w wq by rw [hq];exact aG HB.out q.low);have nU:=hid (show s++y1++[32]++y2++[32]++y3++[32,46,10]=Tm.jo (L.take (i+1)) by rw [kN.out,LP.out,←HS.out];simp only [List.append_assoc]);clear hq q k0 k1 k2 k3 k4 k5 k6 k7 k8;go_wp2;go_roundg (n-(i+1))
    (case measure=>omega);case rel=>exact ⟨i+1,s++y1++[32]++y2++[32]++y3++[32,46,10],by simp [str,aaV],aN,aj,aj,ig.out,nU.out,by simp only [List.length_append,List.length_cons,List.length_nil];omega⟩
  {obtain rfl:i=n:=aj;have hltz:¬ (i:Int)<(i:Int):=aj;have HE:=hid (show s=Tm.jo L by rw [HS.out,HN.out,List.take_length]);go_wp2;go_ret;exact ⟨by rw [←HE.out];rfl,HB.out⟩}
theorem aaX (s:List UInt8) (w:World) (hs:s.length≤1000000) (hM:oZ w) :
  Calls prog 83 #[str s] w fun e w'=>e=.returned (.tuple #[str (Tm.fA s).1,str (Tm.fA s).2])∧∃ n,w'=w.drewN n:=by
 have CT:=hid (fun (W:World) (h:oZ W)=>Tryz.strings_Cut ⟨s.toArray⟩ ⟨([10]:List UInt8).toArray⟩ h.choose W (by simp [ByteArray.size];omega) h.choose_spec);have hlen:(Lib.cut s [10]).1.length≤s.length:=by unfold Lib.cut;split <;> simp;omega
 obtain ⟨l,r,b,hc⟩:∃ l r b,Lib.cut s [10]=(l,r,b):=⟨_,_,_,rfl⟩;have NZ:Hid (∀ W,oZ W→Calls prog 120 #[str s,str [10]] W fun e w'=>e=.returned (.tuple #[str l,str r,.bool b])∧∃ n,w'=W.drewN n):=by intro W h;have:=CT.out W h;simp only [List.toList_toArray] at this;rw [hc] at this;exact this
 rw [hc] at hlen;have HP:=hid (show Tm.fA s=if b=true then (Lib.trimSuffix l [13],r) else (l,r) by unfold Tm.fA;rw [hc]);have TM:=hid (fun W=>Tryz.strings_TrimSuffix ⟨l.toArray⟩ ⟨([13]:List UInt8).toArray⟩ W (by simp [ByteArray.size];simp only at hlen;omega));have TM2:Hid (∀ W,Calls prog 121 #[str l,str [13]] W fun e w'=>e=.returned (str (Lib.trimSuffix l [13]))∧w'=W):=TM;have HM:=hid hM;clear CT hlen hc hM TM;cases b
 · have HQ:=hid (show Tm.fA s=(l,r) from HP.out);rw [HQ.out];go_enter func83,ntmps83;(go_wp2_with fail);refine (NZ.out _ HM.out).mono ?_;rintro e w2 ⟨rfl,n,rfl⟩;go_wp2;go_ret2
   exact ⟨rfl,n,rfl⟩
 · have HQ:=hid (show Tm.fA s=(Lib.trimSuffix l [13],r) from HP.out);rw [HQ.out];go_enter func83,ntmps83;(go_wp2_with fail);refine (NZ.out _ HM.out).mono ?_;rintro e w2 ⟨rfl,n,rfl⟩;(go_wp2_with fail);refine (TM2.out _).mono ?_;rintro e w3 ⟨rfl,rfl⟩;go_wp2;go_ret2
   exact ⟨rfl,n,rfl⟩
def cu (l:List TR):List Value:=l.flatMap fun t=>(bA t).cells
theorem aaY (l:List TR) (t:TR):cu (l++[t])=cu l++(bA t).cells:=by simp [cu]
theorem BM:∀ (D:List TR) (i c:Nat) (hi:i<D.length),c<9→(cu D)[i*9+c]?=(bA D[i]).cells[c]?
 | [],i,c,hi,_=>by simp at hi
 | p::D,0,c,hi,hc=>by
  show ((bA p).cells++cu D)[0*9+c]?=_
  rw [List.getElem?_append_left (by show _<9;omega),Nat.zero_mul,Nat.zero_add];rfl
 | p::D,i+1,c,hi,hc=>by
  show ((bA p).cells++cu D)[(i+1)*9+c]?=_
  rw [List.getElem?_append_right (by show 9≤_;omega),show (i+1)*9+c-(bA p).cells.length=i*9+c by show _-9=_;omega]
  exact BM D i c (by simpa using hi) hc
theorem BN {w:World} {B:Nat} {v:Value} {l:List TR} (h:w.ownsRow B 67 9 v l.length (cu l)):bX w v (l.map bA):=by rcases h.2 with ⟨rfl,h0⟩ | ⟨g,cap,cur,hv,hg,hh,hnc,hcm,hcs,htake⟩;{have:l=[]:=List.eq_nil_of_length_eq_zero h0;subst this;exact bX.nil w};{subst hv;refine ⟨_,cap,by rw [List.length_map],by rw [List.length_map];exact hnc,hcm,(fun h=>by cases h),.inr ⟨g,0,rfl,fun i hi c hc=>?_⟩⟩;have hi':i<l.length:=(by simpa using hi);have hc9:c<(bA l[i]).cells.length:=hc;have h1:=BM l i c hi' hc;rw [Nat.zero_add,List.getElem_map,←h1];rw [h.cellAt (i*9+c) aj]}
theorem qc (p:TR):∀ u∈(bA p).cells,u.oneCell'=true:=by intro u hu;simp [eT.cells,bA] at hu;rcases hu with rfl | rfl | rfl | rfl | rfl | rfl | rfl | rfl | rfl <;> rfl
theorem FU (W:World) (p:TR):∀ ad,some (⟨W.heap.size,0,none⟩:Addr)=some ad→∀ j u,((bA p).cells)[j]?=some u→(W.alloc (.cells (bA p).cells.toArray 67)).cell? (ad.add j)=some u:=by intro ad had j u hu;cases had;rw [ji rfl,Nat.zero_add,gB,←Array.getElem?_toList];exact hu
theorem BQ {s:List UInt8} {t:TR} (h:Tm.one s=some (some t)):Tm.bG t=true:=by unfold Tm.one at h;split at h;{cases h};{split at h;{cases h};{split at h;{cases h};{split at h;{rename_i hh;simp only [Option.some.injEq] at h;subst h;exact hh.2};{cases h}}}}
theorem aaZ:pq ((0,[],[]),(0,[],[]),0,[],[]):=⟨⟨Nat.zero_le _,Nat.zero_le _,Nat.zero_le _⟩,⟨Nat.zero_le _,Nat.zero_le _,Nat.zero_le _⟩,Nat.zero_le _,Nat.zero_le _,Nat.zero_le _⟩
def FV (w:World) (r:Nat×Nat×List TR) (e:Ending) (w':World):Prop:=
 ∃ v,e=.returned (.tuple #[v,.int .i64 (r.2.1:Nat),.int .i64 (r.1:Nat)])∧bX w' v ((if r.1=0 then Tm.eD r.2.2 else []).map bA)∧Below w.heap.size w w'
theorem Uq7 {w w':World} {E N:Nat} {l:List TR} {n e:Nat} (hE:E=e) (he:e≠0) (hN:N=n) (hB:Below w.heap.size w w'):FV w (E,N,l) (.returned (.tuple #[.slice none 0 0,.int .i64 (n:Nat),.int .i64 (e:Nat)])) w':=by subst hE;subst hN;exact ⟨_,rfl,by simp only [if_neg he];exact bX.nil _,hB⟩
theorem aa0 (s:List UInt8) (w:World) (hV:Vars w) (hE:dz w) (hl:s.length≤20000) (R:Nat×Nat×List TR) (nV:Tm.f_ s 0 []=R) :
  Calls prog 42 #[str s] w (FV w R):=by
 have hmm:=@run_makeMap prog;have HV:=hid hV;have HE:=hid hE;have HA:=hid nV;have PO:=hid (fun (u:List UInt8) (W:World) hV hE hu=>aaT u W hV hE hu);have CU:=hid (fun (u:List UInt8) (W:World) hu hM=>aaX u W hu hM);have HB0:=hid (show Below w.heap.size w (w.alloc (.map #[] 0)) from (Below.refl _ _).alloc ay _);have sM:=hid (show (w.alloc (.map #[] 0)).ownsMap prog 67 Go.unitElem w.heap.size 0 (fZ []) from World.ownsMap_made _ _ _ _);clear hV hE nV;go_enter func42,ntmps42;go_wp2;go_step3
 go_wp2;go_step3
 go_wp2;go_loopg [0,5,6,8,9,10,11,12,13,14] s.length (fun gk s0 s5 s6 s8 s9 s10 s11 s12 s13 zC wr=>∃ (u:List UInt8) (n:Nat) (l:List TR),s0=str u∧s5=.int .i64 n∧u.length≤gk∧u.length≤s.length∧n≤200∧l.length≤n∧Hid (∀ t∈l,Tm.bG t=true)∧Hid (Below w.heap.size w wr)∧Hid (wr.ownsMap prog 67 Go.unitElem w.heap.size n (fZ l))∧Hid (wr.ownsRow (w.heap.size+1) 67 9 s6 l.length (cu l))∧Hid (Tm.f_ u n l=R))
 case atStart=>exact ⟨s,0,[],rfl,rfl,Nat.le_refl _,Nat.le_refl _,aj,Nat.le_refl _,hid (fun t h=>by cases h),HB0,sM,World.ownsRow_nil _ _ _ _,HA⟩
 case round=>
  obtain ⟨u,n,l,rfl,rfl,hg,iF,hn,hln,gJ,HB,HM,HR,HP⟩:=hrel;have iE:=HM.out.lt;rcases u with _ | ⟨c,v⟩
  · have HF:=hid (show R=(0,n,l) from HP.out.symm);have SO:=hid (Zn l gJ.out aj wr u6 (BN HR.out));(go_wp2_with fail);refine SO.out.mono ?_;rintro e w2 ⟨v2,rfl,hv2,hlow⟩;have gF:=hid hv2;have HB2:=hid (aG HB.out hlow);clear hv2 hlow;go_wp2;go_ret3
    rw [HF.out];exact ⟨v2,rfl,gF.out,HB2.out⟩
  · have hu:(c::v:List UInt8)≠[]:=aC;have hue:((c::v:List UInt8) != [])=true:=rfl;have hcl:=Tm.wJ hu;have HS:=hid (Tm.Dy hu n l);have u_:=hid (CU.out (c::v) wr aj ((HV.out.keep HB.out).2));have hc1:(Tm.fA (c::v)).1.length≤1000000:=(by have:=Tm.JW (c::v);omega);obtain ⟨cl,cr,hcc⟩:∃ cl cr,Tm.fA (c::v)=(cl,cr):=⟨_,_,rfl⟩;rw [hcc] at u_ HS hcl hc1;have qd:=hid (fun W hV hE=>PO.out cl W hV hE hc1);clear hu hcc;by_cases m_:200<n+1
    · have hz:(200:Int)<(n:Int)+1:=aj;have HF:=hid (show R=(3,n+1,[]) by have h:=HP.out;rw [HS.out,if_pos m_] at h;exact h.symm);(go_wp2_with fail);refine u_.out.mono ?_;rintro e w2 ⟨rfl,nq,rfl⟩;go_wp2;rw [Exit.noGoto_ret];go_ret3
      rw [HF.out];exact Uq7 rfl aH rfl (cB HB.out _)
    · have hz:(n:Int)+1≤200:=aj;cases ho:Tm.one cl with
      | none=>
       have HF:=hid (show R=(2,n+1,[]) by have h:=HP.out;rw [HS.out,if_neg m_] at h;simp only [ho] at h;exact h.symm);rw [ho] at qd;have vg:Hid (∀ W,Vars W→dz W→Calls prog 84 #[str cl] W fun e w'=>e=.returned (.tuple #[.agg z9.toArray,.bool false,.bool false])∧Below W.heap.size W w'):=qd;clear ho qd;(go_wp2_with fail);refine u_.out.mono ?_;rintro e w2 ⟨rfl,nq,hw2⟩;have HB2:=hid (show Below w.heap.size w w2 by rw [hw2];exact cB HB.out _);clear hw2;(go_wp2_with fail);refine (vg.out _ (HV.out.keep HB2.out) (HE.out.keep HB2.out)).mono ?_;rintro e w3 ⟨rfl,hlow⟩;have HB3:=hid (aG HB2.out hlow);clear hlow;go_wp2;rw [Exit.noGoto_ret];go_ret3
       rw [HF.out];exact Uq7 rfl aH rfl (HB3.out.alloc HB3.out.size _)
      | some o=>
       cases o with
       | none=>
        have HF:=hid (show Tm.f_ cr (n+1) l=R by have h:=HP.out;rw [HS.out,if_neg m_] at h;simp only [ho] at h;exact h);rw [ho] at qd;obtain ⟨t,BR,vg⟩:∃ t:TR,Hid (pq t)∧Hid (∀ W,Vars W→dz W→Calls prog 84 #[str cl] W fun e w'=>e=.returned (.tuple #[o_ t,.bool false,.bool true])∧Below W.heap.size W w'):=⟨((0,[],[]),(0,[],[]),0,[],[]),aaZ,qd⟩;obtain ⟨⟨n1,t1,x1⟩,⟨n2,t2,x2⟩,n3,t3,x3⟩:=t;have HK:=hid (show keyOf prog 67 (o_ ((n1,t1,x1),(n2,t2,x2),n3,t3,x3))=some (jP ((n1,t1,x1),(n2,t2,x2),n3,t3,x3)) from uj BR.out);obtain ⟨b,hb⟩:=aA (Maps.has (fZ l) (jP ((n1,t1,x1),(n2,t2,x2),n3,t3,x3)));have dK:=hid hb;clear ho qd hb;cases b;all_goals
         go_wp2_with fail
         refine u_.out.mono ?_
         rintro e w2 ⟨rfl,nq,hw2⟩
         have HB2:=hid (show Below w.heap.size w w2 by rw [hw2];exact cB HB.out _)
         have mh:=hid (show w2.ownsMap prog 67 Go.unitElem w.heap.size n (fZ l) by rw [hw2];exact HM.out)
         have HR2:=hid (show w2.ownsRow (w.heap.size+1) 67 9 u6 l.length (cu l) by rw [hw2];exact HR.out)
         clear hw2
         go_wp2_with fail
         refine (vg.out _ (HV.out.keep HB2.out) (HE.out.keep HB2.out)).mono ?_
         rintro e w3 ⟨rfl,hlow⟩
         have HB3:=hid (aG HB2.out hlow)
         have qW:=hid (Br mh.out hlow)
         have HR3:=hid (Bt HR2.out hlow)
         clear hlow
         have aP:=hid (show Below w.heap.size w (aU w3 n1 t1 x1 n2 t2 x2 n3 t3 x3) from HB3.out.alloc HB3.out.size _)
         have iJ:=hid (show (aU w3 n1 t1 x1 n2 t2 x2 n3 t3 x3).ownsMap prog 67 Go.unitElem w.heap.size n (fZ l) from qW.out.alloc _)
         have HR4:=hid (show (aU w3 n1 t1 x1 n2 t2 x2 n3 t3 x3).ownsRow (w.heap.size+1) 67 9 u6 l.length (cu l) from HR3.out.alloc _)
         have aW:=hid (fT w3 n1 t1 x1 n2 t2 x2 n3 t3 x3)
         go_upto_region 15 with fail
         show Code.wp _ _ _ _ (aU w3 n1 t1 x1 n2 t2 x2 n3 t3 x3)
         obtain ⟨w4,hw4⟩:=aA (aU w3 n1 t1 x1 n2 t2 x2 n3 t3 x3)
         rw [←hw4] at aP iJ HR4 aW ⊢
         clear hw4
         have c0:=aW.out.cell (i:=0) rfl
         have c1:=aW.out.cell (i:=1) rfl
         have c2:=aW.out.cell (i:=2) rfl
         have c3:=aW.out.cell (i:=3) rfl
         have c4:=aW.out.cell (i:=4) rfl
         have c5:=aW.out.cell (i:=5) rfl
         have c6:=aW.out.cell (i:=6) rfl
         have c7:=aW.out.cell (i:=7) rfl
         have c8:=aW.out.cell (i:=8) rfl
         go_upto_region 16 with (at_lookup;refine wpList_lookup_own_unit _ rfl _ _ 137 rfl 67 142 o9 underlying137 (xX _) w.heap.size n (fZ l) rfl iJ.out _ _ rfl HK.out ?_;rw [←dK.out])
         clear c0 c1 c2 c3 c4 c5 c6 c7 c8
         have aR:=hid (aP.out.alloc aP.out.size (.cells #[] 142))
         have jy:=hid (iJ.out.alloc (.cells #[] 142))
         have bK:=hid (HR4.out.alloc (.cells #[] 142))
         have bf:=hid (aW.out.alloc (.cells #[] 142))
         generalize w4.alloc (.cells #[] 142)=w5 at aR jy bK bf ⊢
         go_wp2
         go_roundg cr.length
         case measure=>omega
         case rel=>exact ⟨cr,n+1,l,rfl,aN,Nat.le_refl _,aj,aj,aj,gJ.out,aR.out,E9 jy.out,bK.out,HF.out⟩
       | some t=>
        have HT1:=hid (BQ ho);have BR:=hid (xY HT1.out);have HST:=hid (show (if t∈l then Tm.f_ cr (n+1) l else if l.length=100 then (3,n+1,[]) else Tm.f_ cr (n+1) (l++[t]))=R by have h:=HP.out;rw [HS.out,if_neg m_] at h;simp only [ho] at h;exact h);rw [ho] at qd;obtain ⟨⟨n1,t1,x1⟩,⟨n2,t2,x2⟩,n3,t3,x3⟩:=t;have vg:Hid (∀ W,Vars W→dz W→Calls prog 84 #[str cl] W fun e w'=>e=.returned (.tuple #[fD (n1:Nat) t1 x1 (n2:Nat) t2 x2 (n3:Nat) t3 x3,.bool true,.bool true])∧Below W.heap.size W w'):=qd;have HK:=hid (show keyOf prog 67 (o_ ((n1,t1,x1),(n2,t2,x2),n3,t3,x3))=some (jP ((n1,t1,x1),(n2,t2,x2),n3,t3,x3)) from uj BR.out);obtain ⟨b,hb⟩:=aA (Maps.has (fZ l) (jP ((n1,t1,x1),(n2,t2,x2),n3,t3,x3)));have dK:=hid hb;have sN:=hid (show b=decide (((n1,t1,x1),(n2,t2,x2),n3,t3,x3)∈l) by rw [hb];exact zT (fun s hs=>xY (gJ.out s hs)) BR.out);clear ho qd hb;cases b
        · have vo:=hid (of_decide_eq_false sN.out.symm);(go_wp2_with fail);refine u_.out.mono ?_;rintro e w2 ⟨rfl,nq,hw2⟩;have HB2:=hid (show Below w.heap.size w w2 by rw [hw2];exact cB HB.out _);have mh:=hid (show w2.ownsMap prog 67 Go.unitElem w.heap.size n (fZ l) by rw [hw2];exact HM.out);have HR2:=hid (show w2.ownsRow (w.heap.size+1) 67 9 u6 l.length (cu l) by rw [hw2];exact HR.out);clear hw2;(go_wp2_with fail);refine (vg.out _ (HV.out.keep HB2.out) (HE.out.keep HB2.out)).mono ?_;rintro e w3 ⟨rfl,hlow⟩;have HB3:=hid (aG HB2.out hlow);have qW:=hid (Br mh.out hlow);have HR3:=hid (Bt HR2.out hlow);clear hlow;have aP:=hid (show Below w.heap.size w (aU w3 n1 t1 x1 n2 t2 x2 n3 t3 x3) from HB3.out.alloc HB3.out.size _);have iJ:=hid (show (aU w3 n1 t1 x1 n2 t2 x2 n3 t3 x3).ownsMap prog 67 Go.unitElem w.heap.size n (fZ l) from qW.out.alloc _);have HR4:=hid (show (aU w3 n1 t1 x1 n2 t2 x2 n3 t3 x3).ownsRow (w.heap.size+1) 67 9 u6 l.length (cu l) from HR3.out.alloc _);have aW:=hid (fT w3 n1 t1 x1 n2 t2 x2 n3 t3 x3);(go_upto_region 15 with fail);show Code.wp _ _ _ _ (aU w3 n1 t1 x1 n2 t2 x2 n3 t3 x3);obtain ⟨w4,hw4⟩:=aA (aU w3 n1 t1 x1 n2 t2 x2 n3 t3 x3);rw [←hw4] at aP iJ HR4 aW ⊢;clear hw4;have c0:=aW.out.cell (i:=0) rfl;have c1:=aW.out.cell (i:=1) rfl;have c2:=aW.out.cell (i:=2) rfl;have c3:=aW.out.cell (i:=3) rfl;have c4:=aW.out.cell (i:=4) rfl;have c5:=aW.out.cell (i:=5) rfl;have c6:=aW.out.cell (i:=6) rfl;have c7:=aW.out.cell (i:=7) rfl;have c8:=aW.out.cell (i:=8) rfl;(go_upto_region 16 with (at_lookup;refine wpList_lookup_own_unit _ rfl _ _ 137 rfl 67 142 o9 underlying137 (xX _) w.heap.size n (fZ l) rfl iJ.out _ _ rfl HK.out ?_;rw [←dK.out]));clear c0 c1 c2 c3 c4 c5 c6 c7 c8;have aR:=hid (aP.out.alloc aP.out.size (.cells #[] 142));have jy:=hid (iJ.out.alloc (.cells #[] 142));have bK:=hid (HR4.out.alloc (.cells #[] 142));have bf:=hid (aW.out.alloc (.cells #[] 142));generalize w4.alloc (.cells #[] 142)=w5 at aR jy bK bf ⊢;obtain ⟨a6,cap6,FW⟩:∃ a6 cap6,u6=.slice a6 l.length cap6:=(by obtain ⟨a6,cap6,h,_⟩:=(BN bK.out).open;rw [List.length_map] at h;exact ⟨a6,cap6,h⟩);obtain ⟨m,hm⟩:=aA l.length;rw [←hm] at FW hln bK;have uU:=hid hm;clear hm;by_cases FX:m=100
          · have HF:=hid (show R=(3,n+1,[]) by have h:=HST.out;rw [if_neg vo.out,if_pos (by rw [←uU.out];exact FX)] at h;exact h.symm);subst FX;subst FW;go_wp2;rw [Exit.noGoto_ret];go_ret3
            rw [HF.out];exact Uq7 rfl aH rfl aR.out
          · have HF:=hid (show Tm.f_ cr (n+1) (l++[((n1,t1,x1),(n2,t2,x2),n3,t3,x3)])=R by have h:=HST.out;rw [if_neg vo.out,if_neg (by rw [←uU.out];exact FX)] at h;exact h);have aek:((m:Int)==100)=false:=beq_eq_false_iff_ne.2 aj;subst FW;have c0:=bf.out.cell (i:=0) rfl;have c1:=bf.out.cell (i:=1) rfl;have c2:=bf.out.cell (i:=2) rfl;have c3:=bf.out.cell (i:=3) rfl;have c4:=bf.out.cell (i:=4) rfl;have c5:=bf.out.cell (i:=5) rfl;have c6:=bf.out.cell (i:=6) rfl;have c7:=bf.out.cell (i:=7) rfl;have c8:=bf.out.cell (i:=8) rfl;(go_upto_region 20 with (at_mapUpdate;refine wpList_mapUpdate_own _ rfl _ _ _ 137 rfl 67 142 o9 underlying137 _ w.heap.size n (fZ l) rfl jy.out (by unfold maxLen;omega) _ _ _ rfl rfl HK.out (.agg []) [] Go.unitElem_mk ?_;intro w6 qR lI));have aO:=hid (aR.out.grown lI aR.out.size (fun k hk=>by cases hk;omega));have sK:=hid (show w6.ownsMap prog 67 Go.unitElem w.heap.size (n+1) (fZ (l++[((n1,t1,x1),(n2,t2,x2),n3,t3,x3)])) by rw [JU];exact qR);have bN:=hid (bK.out.kept lI (.inr (fun e=>by have:=bK.out.lt _ e;omega)));have aJ:=hid (bf.out.map lI (MS jy.out bf.out));clear qR lI c0 c1 c2 c3 c4 c5 c6 c7 c8;have c0:=aJ.out.cell (i:=0) rfl;have c1:=aJ.out.cell (i:=1) rfl;have c2:=aJ.out.cell (i:=2) rfl;have c3:=aJ.out.cell (i:=3) rfl;have c4:=aJ.out.cell (i:=4) rfl;have c5:=aJ.out.cell (i:=5) rfl;have c6:=aJ.out.cell (i:=6) rfl;have c7:=aJ.out.cell (i:=7) rfl;have c8:=aJ.out.cell (i:=8) rfl;obtain ⟨iS,hi0,bY,bZ,b_⟩:=x9;have gP:=aO.out.size;(go_wp2_with (at_builtin;refine rG rfl (.tmp 59) (.tmp 61) 39 rfl (w.heap.size+1) 67 iS _ 9 120 underlying39 hi0 bY bZ b_ rfl aH _ _ _ rfl (bN.out.alloc _) (some ⟨w6.heap.size,0,none⟩) 1 1 (bA ((n1,t1,x1),(n2,t2,x2),n3,t3,x3)).cells rfl (fun h=>by cases h) rfl (FU w6 ((n1,t1,x1),(n2,t2,x2),n3,t3,x3)) (qc ((n1,t1,x1),(n2,t2,x2),n3,t3,x3)) (by unfold maxLen;omega) aj (by simp;omega) ?_));intro v8 w8 g1 g2 g3;have l8:∀ k,(Value.slice a6 m cap6).ownBlock=some k→w.heap.size+1≤k:=fun k hk=>(bN.out.lt k hk).1;have aI:=hid ((aO.out.alloc gP _).grown g2 (by simp;omega) (fun k hk=>by have:=l8 k hk;omega));have Fw:=hid ((sK.out.alloc _).kept g2 (fun e=>by have:=l8 _ e.symm;omega));have d9:=hid (show w8.ownsRow (w.heap.size+1) 67 9 v8 (l++[((n1,t1,x1),(n2,t2,x2),n3,t3,x3)]).length (cu (l++[((n1,t1,x1),(n2,t2,x2),n3,t3,x3)])) by rw [aaY,List.length_append,←uU.out];exact g1);clear g1 g2 g3 l8;go_wp2;go_roundg cr.length
            (case measure=>omega);case rel=>exact ⟨cr,n+1,_,rfl,aN,Nat.le_refl _,aj,aj,by rw [List.length_append,←uU.out];simp only [List.length_cons,List.length_nil];omega,by
             show ∀ s∈_,_;intro s hs;rcases List.mem_append.1 hs with hs | hs;{exact gJ.out s hs}
             · rw [List.mem_singleton.1 hs];exact HT1.out,aI.out,Fw.out,d9.out,HF.out⟩
        · have HF:=hid (show Tm.f_ cr (n+1) l=R by have h:=HST.out;rw [if_pos (of_decide_eq_true sN.out.symm)] at h;exact h);(go_wp2_with fail);refine u_.out.mono ?_;rintro e w2 ⟨rfl,nq,hw2⟩;have HB2:=hid (show Below w.heap.size w w2 by rw [hw2];exact cB HB.out _);have mh:=hid (show w2.ownsMap prog 67 Go.unitElem w.heap.size n (fZ l) by rw [hw2];exact HM.out);have HR2:=hid (show w2.ownsRow (w.heap.size+1) 67 9 u6 l.length (cu l) by rw [hw2];exact HR.out);clear hw2;(go_wp2_with fail);refine (vg.out _ (HV.out.keep HB2.out) (HE.out.keep HB2.out)).mono ?_;rintro e w3 ⟨rfl,hlow⟩;have HB3:=hid (aG HB2.out hlow);have qW:=hid (Br mh.out hlow);have HR3:=hid (Bt HR2.out hlow);clear hlow;have aP:=hid (show Below w.heap.size w (aU w3 n1 t1 x1 n2 t2 x2 n3 t3 x3) from HB3.out.alloc HB3.out.size _);have iJ:=hid (show (aU w3 n1 t1 x1 n2 t2 x2 n3 t3 x3).ownsMap prog 67 Go.unitElem w.heap.size n (fZ l) from qW.out.alloc _);have HR4:=hid (show (aU w3 n1 t1 x1 n2 t2 x2 n3 t3 x3).ownsRow (w.heap.size+1) 67 9 u6 l.length (cu l) from HR3.out.alloc _);have aW:=hid (fT w3 n1 t1 x1 n2 t2 x2 n3 t3 x3);(go_upto_region 15 with fail);show Code.wp _ _ _ _ (aU w3 n1 t1 x1 n2 t2 x2 n3 t3 x3);obtain ⟨w4,hw4⟩:=aA (aU w3 n1 t1 x1 n2 t2 x2 n3 t3 x3);rw [←hw4] at aP iJ HR4 aW ⊢;clear hw4;have c0:=aW.out.cell (i:=0) rfl;have c1:=aW.out.cell (i:=1) rfl;have c2:=aW.out.cell (i:=2) rfl;have c3:=aW.out.cell (i:=3) rfl;have c4:=aW.out.cell (i:=4) rfl;have c5:=aW.out.cell (i:=5) rfl;have c6:=aW.out.cell (i:=6) rfl;have c7:=aW.out.cell (i:=7) rfl;have c8:=aW.out.cell (i:=8) rfl;(go_upto_region 16 with (at_lookup;refine wpList_lookup_own_unit _ rfl _ _ 137 rfl 67 142 o9 underlying137 (xX _) w.heap.size n (fZ l) rfl iJ.out _ _ rfl HK.out ?_;rw [←dK.out]));clear c0 c1 c2 c3 c4 c5 c6 c7 c8;have aR:=hid (aP.out.alloc aP.out.size (.cells #[] 142));have jy:=hid (iJ.out.alloc (.cells #[] 142));have bK:=hid (HR4.out.alloc (.cells #[] 142));have bf:=hid (aW.out.alloc (.cells #[] 142));generalize w4.alloc (.cells #[] 142)=w5 at aR jy bK bf ⊢;go_wp2;go_roundg cr.length
          (case measure=>omega);case rel=>exact ⟨cr,n+1,l,rfl,aN,Nat.le_refl _,aj,aj,aj,gJ.out,aR.out,E9 jy.out,bK.out,HF.out⟩
end Go.Proofs.YtjaebndajhppgaaGreatDoor
