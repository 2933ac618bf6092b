/-GPar-/
import Derived.Test.YtjaebndajhppgaaGreatDoorMnGTri
import Derived.Test.YtjaebndajhppgaaGreatDoorMnPrOne
import Derived.Test.YtjaebndajhppgaaGreatDoorMnGSort
import Derived.WalkMore
set_option linter.unusedVariables false
set_option linter.unusedSimpArgs false
set_option maxRecDepth 100000
set_option maxHeartbeats 8000000
namespace Go.Proofs.YtjaebndajhppgaaGreatDoor
open Go.ChangeShapes Go.WideShapes Go.ChangeAt Go.RowKit
theorem Ow (B b:Nat) (bs:List Value) (s:List UInt8) (w:World) (h:Lib.IsBuilder 174 5 B b bs w) (hlen:bs.length+s.length≤140737488355328) (hB:B≤w.heap.size) :
  Calls Tryz.prog 109 #[.pointer (some ⟨b,0,none⟩),str s] w fun e w'=>(∃ n:Int,e=.returned (.tuple #[.int .i64 n,.nilIface]))∧Lib.BuilderAt 174 5 B b (.pointer (some ⟨b,0,none⟩)) (bs++Lib.byteCells s) w'∧Below B w w':=by have L:Lays.n166 Tryz.prog Tryz.lays156_ren:={ Tryz.lays156 with };refine (Any.Builder_WriteString L Tryz.Builder_Extra_156 B b bs ⟨s.toArray⟩ w h (by simpa [ByteArray.size] using hlen) hB).mono ?_;rintro e w' ⟨he,h1,h2⟩;exact ⟨⟨_,he⟩,h1,h2⟩
theorem Ox {B b:Nat} {p:Value} {bs:List Value} {w w':World} (h:Lib.BuilderAt 174 5 B b p bs w) (hb:Below w.heap.size w w'):Lib.BuilderAt 174 5 B b p bs w':=by have hlt:=h.lt;obtain ⟨h1,v,h2,h3,h4⟩:=h;refine ⟨h1,v,?_,h3.kept (row:=none) ⟨hb.os,hb.tape,hb.output,hb.size,fun k hk _=>hb.block k hk⟩ ?_,h4⟩;{rw [hb.block b hlt];exact h2};{cases v.ownBlock <;> simp}
theorem F7 {B b:Nat} {bs:List Value} {w w':World} (h:Lib.IsBuilder 174 5 B b bs w) (hb:Below w.heap.size w w'):Lib.IsBuilder 174 5 B b bs w':=by rcases h with h | h;{exact .inl (Ox h hb)};{exact .inr (Ox h hb)}
theorem abD (b:Nat) (a1 a2 a3:List UInt8) (w:World) (h:aj w b [str a1,str a2,str a3] 9) (h1:a1.length≤10000000000) (h2:a2.length≤10000000000) (h3:a3.length≤10000000000) :
  Calls Tryz.prog 110 #[.slice (some ⟨b,0,none⟩) 3 3,str [32]] w fun e w'=>e=.returned (str (a1++32::(a2++32::a3)))∧Below w.heap.size w w':=by
 have hj:Lib.join ([⟨a1.toArray⟩,⟨a2.toArray⟩,⟨a3.toArray⟩].map (fun x:ByteArray=>x.data.toList)) (⟨([32]:List UInt8).toArray⟩:ByteArray).data.toList=a1++32::(a2++32::a3):=by simp [Lib.join,List.intercalate]
 have:=Tryz.strings_Join b 0 3 [⟨a1.toArray⟩,⟨a2.toArray⟩,⟨a3.toArray⟩] ⟨([32]:List UInt8).toArray⟩ w (by
  intro j x hx;match j,hx with
  | 0,hx=>simp only [List.getElem?_cons_zero,Option.some.injEq] at hx;rw [←hx];exact h.cell (i:=0) rfl
  | 1,hx=>simp only [List.getElem?_cons_succ,List.getElem?_cons_zero,Option.some.injEq] at hx;rw [←hx];exact h.cell (i:=1) rfl
  | 2,hx=>simp only [List.getElem?_cons_succ,List.getElem?_cons_zero,Option.some.injEq] at hx;rw [←hx];exact h.cell (i:=2) rfl
  | j+3,hx=>simp at hx) h.lt (by simp) (by simp) (by rw [hj];simp only [List.length_append,List.length_cons];omega)
 rw [hj] at this;exact this
theorem Oy (a b:List UInt8):Lib.byteCells a++Lib.byteCells b=Lib.byteCells (a++b):=by simp [Lib.byteCells]
def qw (L:List bL):Int:=(L.map bL.big).sum
theorem abE (L:List bL) (t:bL):qw (L++[t])=qw L+t.big:=by simp [qw]
def Oz (L:List bL):Bool:=decide (9000<qw L)
def g_ (L:List bL):Bool:=L.all bL.is
theorem abF (n1 n2 n3:Nat) (t1 x1 t2 x2 t3 x3:List UInt8):cZ (n1:Nat) t1 x1 (n2:Nat) t2 x2 (n3:Nat) t3 x3=Tm.aN ((n1,t1,x1),(n2,t2,x2),n3,t3,x3):=by unfold cZ Tm.aN Tm.bX;simp only;congr 1;congr 1;{congr 1;apply propext;omega};{congr 1;apply propext;omega}
theorem abG {L:List bL} (h:g_ L=true):∃ M:List TR,L=M.map aK∧∀ t∈M,Tm.aN t=true:=by
 unfold g_ at h;rw [List.all_eq_true] at h;induction L with
 | nil=>exact ⟨[],rfl,fun t ht=>by cases ht⟩
 | cons a L ih=>obtain ⟨M,hM,hMt⟩:=ih (fun t ht=>h t (by simp [ht]));have ha:=h a (by simp);obtain ⟨k1,t1,x1,k2,t2,x2,k3,t3,x3⟩:=a;have hi:cZ k1 t1 x1 k2 t2 x2 k3 t3 x3=true:=ha;have hi2:=hi;unfold cZ at hi2;simp only [Bool.and_eq_true,decide_eq_true_eq] at hi2;obtain ⟨n1,e1,_,_⟩:=Tm.fF hi2.2.1.1;obtain ⟨n2,e2,_,_⟩:=Tm.fF hi2.2.1.2;obtain ⟨n3,e3,_,_⟩:=Tm.fF hi2.2.2;subst e1;subst e2;subst e3;refine ⟨((n1,t1,x1),(n2,t2,x2),n3,t3,x3)::M,by rw [hM];rfl,fun t ht=>?_⟩;rcases List.mem_cons.1 ht with rfl | ht;{have:=abF n1 n2 n3 t1 x1 t2 x2 t3 x3;rw [←this];exact hi};{exact hMt t ht}
theorem abH (a b:List UInt8):(⟨a.toArray⟩:ByteArray)++⟨b.toArray⟩=⟨(a++b).toArray⟩:=by apply ByteArray.ext;simp
theorem OD (t:TR):Tm.dR t++[10]=Tm.aG t.1.1 t.1.2.1 t.1.2.2++[32]++Tm.aG t.2.1.1 t.2.1.2.1 t.2.1.2.2++[32]++Tm.aG t.2.2.1 t.2.2.2.1 t.2.2.2.2++[32,46,10]:=by unfold Tm.dR;simp
theorem F8 (L:List TR) (hl:∀ t∈L,Tm.aN t=true) (hn:L.length≤1000000) (w:World) (v:Value) (hv:bB w v (L.map aK)) :
  Calls Tryz.prog 21 #[v] w fun e w'=>e=.returned (str (Tm.dY L))∧Below w.heap.size w w':=by
 obtain ⟨a,cap,rfl,hc1,hc2,hc3⟩:=hv.open;have HV:=hid hv;have HL:=hid hl;rw [List.length_map] at HV ⊢;obtain ⟨n,hn0⟩:∃ n,n=L.length:=⟨_,rfl⟩;rw [←hn0] at HV hn ⊢;have HN:=hid hn0;clear hv hl hc1 hc2 hc3 hn0;go_enter Tryz.func21,Tryz.ntmps21;go_wp2;go_loopg [3,4] n (fun gk s3 s4 wr=>∃ (i:Nat) (s:List UInt8),s3=str s∧s4=.int .i64 i∧i≤n∧n-i≤gk∧Hid (Below w.heap.size w wr)∧Hid (s=Tm.dY (L.take i))∧s.length≤801*i)
 case atStart=>exact ⟨0,[],rfl,rfl,Nat.zero_le _,Nat.le_refl _,Below.refl _ _,hid rfl,by simp⟩
 case round=>
  obtain ⟨i,s,rfl,rfl,hin,hg,HB,HS,hsl⟩:=hrel;by_cases hlt:i<n
  · have hltz:(i:Int)<(n:Int):=(by omega);have aZ:i<L.length:=(by rw [←HN.out];exact hlt);have HT1:=hid (HL.out L[i] (List.getElem_mem aZ));have gD:=hid (HV.out.keep HB.out);obtain ⟨bl,off,rfl,hrow⟩:=gD.out.get (i:=i) (by rw [List.length_map];exact aZ);have HRW:=hid (hrow i (by rw [List.length_map];exact aZ));rw [List.getElem_map] at HRW;have iP:=hid (show Tm.dY (L.take (i+1))=Tm.dY (L.take i)++(Tm.dR L[i]++[10]) by rw [List.take_add_one,List.getElem?_eq_getElem aZ];exact Tm.Ky _ _);obtain ⟨t,ht⟩:∃ t,t=L[i]:=⟨_,rfl⟩;rw [←ht] at HT1 HRW iP;obtain ⟨p1,p2,q1,q2,q3⟩:=Tm.mR HT1.out;have b1:=Tm.fq q1;have b2:=Tm.fq q2;have b3:=Tm.fq q3;obtain ⟨e1,f1,g1,h1⟩:=Tm.fF q1;obtain ⟨e2,f2,g2,h2⟩:=Tm.fF q2;obtain ⟨e3,f3,g3,h3⟩:=Tm.fF q3;have LP:=hid (OD t);obtain ⟨⟨n1,t1,x1⟩,⟨n2,t2,x2⟩,n3,t3,x3⟩:=t;simp only at b1 b2 b3 f1 f2 f3;have S1:=hid (fun W=>tC n1 t1 x1 W (by omega) (by omega) (by omega));have S2:=hid (fun W=>tC n2 t2 x2 W (by omega) (by omega) (by omega));have S3:=hid (fun W=>tC n3 t3 x3 W (by omega) (by omega) (by omega));simp only at LP;obtain ⟨y1,hy1⟩:∃ y,y=Tm.aG n1 t1 x1:=⟨_,rfl⟩;obtain ⟨y2,hy2⟩:∃ y,y=Tm.aG n2 t2 x2:=⟨_,rfl⟩;obtain ⟨y3,hy3⟩:∃ y,y=Tm.aG n3 t3 x3:=⟨_,rfl⟩;rw [←hy1] at S1 LP b1;rw [←hy2] at S2 LP b2;rw [←hy3] at S3 LP b3;have d1:=b1.1;have d2:=b2.1;have d3:=b3.1;clear ht hrow q1 q2 q3 p1 p2 b1 b2 b3 e1 f1 g1 h1 e2 f2 g2 h2 e3 f3 g3 h3 hy1 hy2 hy3;have c0:=HRW.out 0 (by omega);have c1:=HRW.out 1 (by omega);have c2:=HRW.out 2 (by omega);have c3:=HRW.out 3 (by omega);have c4:=HRW.out 4 (by omega);have c5:=HRW.out 5 (by omega);have c6:=HRW.out 6 (by omega);have c7:=HRW.out 7 (by omega);have c8:=HRW.out 8 (by omega);simp only [aK,bL.cells,List.getElem?_cons_zero,List.getElem?_cons_succ,Nat.add_zero] at c0 c1 c2 c3 c4 c5 c6 c7 c8;have k0:=fun p:Later wr.heap.size wr=>p.keep c0;have k1:=fun p:Later wr.heap.size wr=>p.keep c1;have k2:=fun p:Later wr.heap.size wr=>p.keep c2;have k3:=fun p:Later wr.heap.size wr=>p.keep c3;have k4:=fun p:Later wr.heap.size wr=>p.keep c4;have k5:=fun p:Later wr.heap.size wr=>p.keep c5;have k6:=fun p:Later wr.heap.size wr=>p.keep c6;have k7:=fun p:Later wr.heap.size wr=>p.keep c7;have k8:=fun p:Later wr.heap.size wr=>p.keep c8;have l1:(s++y1).length≤900000000:=(by rw [List.length_append];omega);have l2:(s++y1++[32]).length≤900000000:=(by simp only [List.length_append,List.length_cons,List.length_nil];omega);have l3:(s++y1++[32]++y2).length≤900000000:=(by simp only [List.length_append,List.length_cons,List.length_nil];omega);have l4:(s++y1++[32]++y2++[32]).length≤900000000:=(by simp only [List.length_append,List.length_cons,List.length_nil];omega);have l5:(s++y1++[32]++y2++[32]++y3).length≤900000000:=(by simp only [List.length_append,List.length_cons,List.length_nil];omega);(go_upto_region 5 with fail);refine fA wr.heap.size (by kernel_rfl) (by kernel_rfl) ?_;(repeat (go_big_quiet_step (first | (go_at_call 63;with_reducible exact Later.call (Nat.le_refl _) (S1.out _)) | (go_at_call 63;with_reducible exact Later.call (Nat.le_refl _) (S2.out _)) | (go_at_call 63;with_reducible exact Later.call (Nat.le_refl _) (S3.out _)))));refine wpQuiet_nil ?_;rintro wq ⟨q,hq⟩;have f_:=hid (show Below w.heap.size w wq by rw [hq];exact aA HB.out q.low);have mI:=hid (show s++y1++[32]++y2++[32]++y3++[32,46,10]=Tm.dY (L.take (i+1)) by rw [iP.out,LP.out,←HS.out];simp only [List.append_assoc]);clear hq q k0 k1 k2 k3 k4 k5 k6 k7 k8;go_wp2;go_roundg (n-(i+1))
    (case measure=>omega);case rel=>exact ⟨i+1,s++y1++[32]++y2++[32]++y3++[32,46,10],by simp [str,abH],by go_num,by omega,by omega,f_.out,mI.out,by simp only [List.length_append,List.length_cons,List.length_nil];omega⟩
  {obtain rfl:i=n:=(by omega);have hltz:¬ (i:Int)<(i:Int):=(by omega);have HE:=hid (show s=Tm.dY L by rw [HS.out,HN.out,List.take_length]);go_wp2;go_ret;exact ⟨by rw [←HE.out];rfl,HB.out⟩}
theorem abI (s:List UInt8) (w:World) (hs:s.length≤1000000) (hM:nO w) :
  Calls Tryz.prog 83 #[str s] w fun e w'=>e=.returned (.tuple #[str (Tm.fu s).1,str (Tm.fu s).2])∧∃ n,w'=w.drewN n:=by
 have CT:=hid (fun (W:World) (h:nO W)=>Tryz.strings_Cut ⟨s.toArray⟩ ⟨([10]:List UInt8).toArray⟩ h.choose W (by simp [ByteArray.size];omega) h.choose_spec);have hlen:(Lib.cut s [10]).1.length≤s.length:=by unfold Lib.cut;split <;> simp;omega
 obtain ⟨l,r,b,hc⟩:∃ l r b,Lib.cut s [10]=(l,r,b):=⟨_,_,_,rfl⟩;have OG:Hid (∀ W,nO W→Calls Tryz.prog 120 #[str s,str [10]] W fun e w'=>e=.returned (.tuple #[str l,str r,.bool b])∧∃ n,w'=W.drewN n):=by intro W h;have:=CT.out W h;simp only [List.toList_toArray] at this;rw [hc] at this;exact this
 rw [hc] at hlen;have HP:=hid (show Tm.fu s=if b=true then (Lib.trimSuffix l [13],r) else (l,r) by unfold Tm.fu;rw [hc]);have TM:=hid (fun W=>Tryz.strings_TrimSuffix ⟨l.toArray⟩ ⟨([13]:List UInt8).toArray⟩ W (by simp [ByteArray.size];simp only at hlen;omega));have TM2:Hid (∀ W,Calls Tryz.prog 121 #[str l,str [13]] W fun e w'=>e=.returned (str (Lib.trimSuffix l [13]))∧w'=W):=TM;have HM:=hid hM;clear CT hlen hc hM TM;cases b
 · have HQ:=hid (show Tm.fu s=(l,r) from HP.out);rw [HQ.out];go_enter Tryz.func83,Tryz.ntmps83;(go_wp2_with fail);refine (OG.out _ HM.out).mono ?_;rintro e w2 ⟨rfl,n,rfl⟩;go_wp2;go_ret2
   exact ⟨rfl,n,rfl⟩
 · have HQ:=hid (show Tm.fu s=(Lib.trimSuffix l [13],r) from HP.out);rw [HQ.out];go_enter Tryz.func83,Tryz.ntmps83;(go_wp2_with fail);refine (OG.out _ HM.out).mono ?_;rintro e w2 ⟨rfl,n,rfl⟩;(go_wp2_with fail);refine (TM2.out _).mono ?_;rintro e w3 ⟨rfl,rfl⟩;go_wp2;go_ret2
   exact ⟨rfl,n,rfl⟩
def bK (l:List TR):List Value:=l.flatMap fun t=>(aK t).cells
theorem abJ (l:List TR) (t:TR):bK (l++[t])=bK l++(aK t).cells:=by simp [bK]
theorem Bd:∀ (D:List TR) (i c:Nat) (hi:i<D.length),c<9→(bK D)[i*9+c]?=(aK D[i]).cells[c]?
 | [],i,c,hi,_=>by simp at hi
 | p::D,0,c,hi,hc=>by
  show ((aK p).cells++bK D)[0*9+c]?=_
  rw [List.getElem?_append_left (by show _<9;omega),Nat.zero_mul,Nat.zero_add];rfl
 | p::D,i+1,c,hi,hc=>by
  show ((aK p).cells++bK D)[(i+1)*9+c]?=_
  rw [List.getElem?_append_right (by show 9≤_;omega),show (i+1)*9+c-(aK p).cells.length=i*9+c by show _-9=_;omega]
  exact Bd D i c (by simpa using hi) hc
theorem Bf {w:World} {B:Nat} {v:Value} {l:List TR} (h:w.ownsRow B 67 9 v l.length (bK l)):bB w v (l.map aK):=by rcases h.2 with ⟨rfl,h0⟩ | ⟨g,cap,cur,hv,hg,hh,hnc,hcm,hcs,htake⟩;{have:l=[]:=List.eq_nil_of_length_eq_zero h0;subst this;exact bB.nil w};{subst hv;refine ⟨_,cap,by rw [List.length_map],by rw [List.length_map];exact hnc,hcm,(fun h=>by cases h),.inr ⟨g,0,rfl,fun i hi c hc=>?_⟩⟩;have hi':i<l.length:=(by simpa using hi);have Km:c<(aK l[i]).cells.length:=hc;have h1:=Bd l i c hi' hc;rw [Nat.zero_add,List.getElem_map,←h1];rw [h.cellAt (i*9+c) (by omega)]}
theorem oG (p:TR):∀ u∈(aK p).cells,u.oneCell'=true:=by intro u hu;simp [bL.cells,aK] at hu;rcases hu with rfl | rfl | rfl | rfl | rfl | rfl | rfl | rfl | rfl <;> rfl
theorem F9 (W:World) (p:TR):∀ ad,some (⟨W.heap.size,0,none⟩:Addr)=some ad→∀ j u,((aK p).cells)[j]?=some u→(W.alloc (.cells (aK p).cells.toArray 67)).cell? (ad.add j)=some u:=by intro ad had j u hu;cases had;rw [iF rfl,Nat.zero_add,eU,←Array.getElem?_toList];exact hu
theorem abK {s:List UInt8} {t:TR} (h:Tm.one s=some (some t)):Tm.aN t=true:=by unfold Tm.one at h;split at h;{cases h};{split at h;{cases h};{split at h;{cases h};{split at h;{rename_i hh;simp only [Option.some.injEq] at h;subst h;exact hh.2};{cases h}}}}
theorem abL:nS ((0,[],[]),(0,[],[]),0,[],[]):=⟨⟨Nat.zero_le _,Nat.zero_le _,Nat.zero_le _⟩,⟨Nat.zero_le _,Nat.zero_le _,Nat.zero_le _⟩,Nat.zero_le _,Nat.zero_le _,Nat.zero_le _⟩
def OH (w:World) (r:Nat×Nat×List TR) (e:Ending) (w':World):Prop:=
 ∃ v,e=.returned (.tuple #[v,.int .i64 (r.2.1:Nat),.int .i64 (r.1:Nat)])∧bB w' v ((if r.1=0 then Tm.dJ r.2.2 else []).map aK)∧Below w.heap.size w w'
theorem Ga {w w':World} {E N:Nat} {l:List TR} {n e:Nat} (hE:E=e) (he:e≠0) (hN:N=n) (hB:Below w.heap.size w w'):OH w (E,N,l) (.returned (.tuple #[.slice none 0 0,.int .i64 (n:Nat),.int .i64 (e:Nat)])) w':=by subst hE;subst hN;exact ⟨_,rfl,by simp only [if_neg he];exact bB.nil _,hB⟩
theorem abM (s:List UInt8) (w:World) (hV:Vars w) (hE:bO w) (hl:s.length≤20000) (R:Nat×Nat×List TR) (yt:Tm.gq s 0 []=R) :
  Calls Tryz.prog 42 #[str s] w (OH w R):=by
 have hmm:=@run_makeMap Tryz.prog;have HV:=hid hV;have HE:=hid hE;have HA:=hid yt;have PO:=hid (fun (u:List UInt8) (W:World) hV hE hu=>Ov u W hV hE hu);have CU:=hid (fun (u:List UInt8) (W:World) hu hM=>abI u W hu hM);have HB0:=hid (show Below w.heap.size w (w.alloc (.map #[] 0)) from (Below.refl _ _).alloc (Nat.le_refl _) _);have rG:=hid (show (w.alloc (.map #[] 0)).ownsMap Tryz.prog 67 Go.unitElem w.heap.size 0 (dX []) from World.ownsMap_made _ _ _ _);clear hV hE yt;go_enter Tryz.func42,Tryz.ntmps42;go_wp2;go_step3
 go_wp2;go_step3
 go_wp2;go_loopg [0,5,6,8,9,10,11,12,13,14] s.length (fun gk s0 s5 s6 s8 s9 s10 s11 s12 s13 za wr=>∃ (u:List UInt8) (n:Nat) (l:List TR),s0=str u∧s5=.int .i64 n∧u.length≤gk∧u.length≤s.length∧n≤200∧l.length≤n∧Hid (∀ t∈l,Tm.aN t=true)∧Hid (Below w.heap.size w wr)∧Hid (wr.ownsMap Tryz.prog 67 Go.unitElem w.heap.size n (dX l))∧Hid (wr.ownsRow (w.heap.size+1) 67 9 s6 l.length (bK l))∧Hid (Tm.gq u n l=R))
 case atStart=>exact ⟨s,0,[],rfl,rfl,Nat.le_refl _,Nat.le_refl _,by omega,Nat.le_refl _,hid (fun t h=>by cases h),HB0,rG,World.ownsRow_nil _ _ _ _,HA⟩
 case round=>
  obtain ⟨u,n,l,rfl,rfl,hg,hul,hn,hln,iM,HB,HM,HR,HP⟩:=hrel;have gH:=HM.out.lt;rcases u with _ | ⟨c,v⟩
  · have HF:=hid (show R=(0,n,l) from HP.out.symm);have SO:=hid (NA l iM.out (by omega) wr u6 (Bf HR.out));(go_wp2_with fail);refine SO.out.mono ?_;rintro e w2 ⟨v2,rfl,hv2,hlow⟩;have dI:=hid hv2;have HB2:=hid (aA HB.out hlow);clear hv2 hlow;go_wp2;go_ret3
    rw [HF.out];exact ⟨v2,rfl,dI.out,HB2.out⟩
  · have hu:(c::v:List UInt8)≠[]:=(by simp);have hue:((c::v:List UInt8) != [])=true:=rfl;have hcl:=Tm.Dy hu;have HS:=hid (Tm.Ku hu n l);have uI:=hid (CU.out (c::v) wr (by omega) ((HV.out.keep HB.out).2));have hc1:(Tm.fu (c::v)).1.length≤1000000:=(by have:=Tm.Vl (c::v);omega);obtain ⟨cl,cr,hcc⟩:∃ cl cr,Tm.fu (c::v)=(cl,cr):=⟨_,_,rfl⟩;rw [hcc] at uI HS hcl hc1;have oH:=hid (fun W hV hE=>PO.out cl W hV hE hc1);clear hu hcc;by_cases Bg:200<n+1
    · have hz:(200:Int)<(n:Int)+1:=(by omega);have HF:=hid (show R=(3,n+1,[]) by have h:=HP.out;rw [HS.out,if_pos Bg] at h;exact h.symm);(go_wp2_with fail);refine uI.out.mono ?_;rintro e w2 ⟨rfl,nq,rfl⟩;go_wp2;rw [Exit.noGoto_ret];go_ret3
      rw [HF.out];exact Ga rfl (by decide) rfl (aX HB.out _)
    · have hz:(n:Int)+1≤200:=(by omega);cases ho:Tm.one cl with
      | none=>
       have HF:=hid (show R=(2,n+1,[]) by have h:=HP.out;rw [HS.out,if_neg Bg] at h;simp only [ho] at h;exact h.symm);rw [ho] at oH;have uJ:Hid (∀ W,Vars W→bO W→Calls Tryz.prog 84 #[str cl] W fun e w'=>e=.returned (.tuple #[.agg z9.toArray,.bool false,.bool false])∧Below W.heap.size W w'):=oH;clear ho oH;(go_wp2_with fail);refine uI.out.mono ?_;rintro e w2 ⟨rfl,nq,hw2⟩;have HB2:=hid (show Below w.heap.size w w2 by rw [hw2];exact aX HB.out _);clear hw2;(go_wp2_with fail);refine (uJ.out _ (HV.out.keep HB2.out) (HE.out.keep HB2.out)).mono ?_;rintro e w3 ⟨rfl,hlow⟩;have HB3:=hid (aA HB2.out hlow);clear hlow;go_wp2;rw [Exit.noGoto_ret];go_ret3
       rw [HF.out];exact Ga rfl (by decide) rfl (HB3.out.alloc HB3.out.size _)
      | some o=>
       cases o with
       | none=>
        have HF:=hid (show Tm.gq cr (n+1) l=R by have h:=HP.out;rw [HS.out,if_neg Bg] at h;simp only [ho] at h;exact h);rw [ho] at oH;obtain ⟨t,Bh,uJ⟩:∃ t:TR,Hid (nS t)∧Hid (∀ W,Vars W→bO W→Calls Tryz.prog 84 #[str cl] W fun e w'=>e=.returned (.tuple #[nR t,.bool false,.bool true])∧Below W.heap.size W w'):=⟨((0,[],[]),(0,[],[]),0,[],[]),abL,oH⟩;obtain ⟨⟨n1,t1,x1⟩,⟨n2,t2,x2⟩,n3,t3,x3⟩:=t;have HK:=hid (show keyOf Tryz.prog 67 (nR ((n1,t1,x1),(n2,t2,x2),n3,t3,x3))=some (jf ((n1,t1,x1),(n2,t2,x2),n3,t3,x3)) from tq Bh.out);obtain ⟨b,hb⟩:∃ b,b=Maps.has (dX l) (jf ((n1,t1,x1),(n2,t2,x2),n3,t3,x3)):=⟨_,rfl⟩;have bR:=hid hb;clear ho oH hb;cases b;all_goals
         go_wp2_with fail
         refine uI.out.mono ?_
         rintro e w2 ⟨rfl,nq,hw2⟩
         have HB2:=hid (show Below w.heap.size w w2 by rw [hw2];exact aX HB.out _)
         have jr:=hid (show w2.ownsMap Tryz.prog 67 Go.unitElem w.heap.size n (dX l) by rw [hw2];exact HM.out)
         have HR2:=hid (show w2.ownsRow (w.heap.size+1) 67 9 u6 l.length (bK l) by rw [hw2];exact HR.out)
         clear hw2
         go_wp2_with fail
         refine (uJ.out _ (HV.out.keep HB2.out) (HE.out.keep HB2.out)).mono ?_
         rintro e w3 ⟨rfl,hlow⟩
         have HB3:=hid (aA HB2.out hlow)
         have qd:=hid (AP jr.out hlow)
         have HR3:=hid (AQ HR2.out hlow)
         clear hlow
         have aI:=hid (show Below w.heap.size w (aM w3 n1 t1 x1 n2 t2 x2 n3 t3 x3) from HB3.out.alloc HB3.out.size _)
         have gL:=hid (show (aM w3 n1 t1 x1 n2 t2 x2 n3 t3 x3).ownsMap Tryz.prog 67 Go.unitElem w.heap.size n (dX l) from qd.out.alloc _)
         have HR4:=hid (show (aM w3 n1 t1 x1 n2 t2 x2 n3 t3 x3).ownsRow (w.heap.size+1) 67 9 u6 l.length (bK l) from HR3.out.alloc _)
         have aL:=hid (fE w3 n1 t1 x1 n2 t2 x2 n3 t3 x3)
         go_upto_region 15 with fail
         show Code.wp _ _ _ _ (aM w3 n1 t1 x1 n2 t2 x2 n3 t3 x3)
         obtain ⟨w4,hw4⟩:∃ w4,w4=aM w3 n1 t1 x1 n2 t2 x2 n3 t3 x3:=⟨_,rfl⟩
         rw [←hw4] at aI gL HR4 aL ⊢
         clear hw4
         have c0:=aL.out.cell (i:=0) rfl
         have c1:=aL.out.cell (i:=1) rfl
         have c2:=aL.out.cell (i:=2) rfl
         have c3:=aL.out.cell (i:=3) rfl
         have c4:=aL.out.cell (i:=4) rfl
         have c5:=aL.out.cell (i:=5) rfl
         have c6:=aL.out.cell (i:=6) rfl
         have c7:=aL.out.cell (i:=7) rfl
         have c8:=aL.out.cell (i:=8) rfl
         go_upto_region 16 with (at_lookup;refine wpList_lookup_own_unit _ rfl _ _ 137 rfl 67 142 nQ Tryz.underlying137 (xI _) w.heap.size n (dX l) rfl gL.out _ _ rfl HK.out ?_;rw [←bR.out])
         clear c0 c1 c2 c3 c4 c5 c6 c7 c8
         have aH:=hid (aI.out.alloc aI.out.size (.cells #[] 142))
         have iO:=hid (gL.out.alloc (.cells #[] 142))
         have dz:=hid (HR4.out.alloc (.cells #[] 142))
         have dZ:=hid (aL.out.alloc (.cells #[] 142))
         generalize w4.alloc (.cells #[] 142)=w5 at aH iO dz dZ ⊢
         go_wp2
         go_roundg cr.length
         case measure=>omega
         case rel=>exact ⟨cr,n+1,l,rfl,by go_num,Nat.le_refl _,by omega,by omega,by omega,iM.out,aH.out,Fu iO.out,dz.out,HF.out⟩
       | some t=>
        have HT1:=hid (abK ho);have Bh:=hid (xJ HT1.out);have HST:=hid (show (if t∈l then Tm.gq cr (n+1) l else if l.length=100 then (3,n+1,[]) else Tm.gq cr (n+1) (l++[t]))=R by have h:=HP.out;rw [HS.out,if_neg Bg] at h;simp only [ho] at h;exact h);rw [ho] at oH;obtain ⟨⟨n1,t1,x1⟩,⟨n2,t2,x2⟩,n3,t3,x3⟩:=t;have uJ:Hid (∀ W,Vars W→bO W→Calls Tryz.prog 84 #[str cl] W fun e w'=>e=.returned (.tuple #[dQ (n1:Nat) t1 x1 (n2:Nat) t2 x2 (n3:Nat) t3 x3,.bool true,.bool true])∧Below W.heap.size W w'):=oH;have HK:=hid (show keyOf Tryz.prog 67 (nR ((n1,t1,x1),(n2,t2,x2),n3,t3,x3))=some (jf ((n1,t1,x1),(n2,t2,x2),n3,t3,x3)) from tq Bh.out);obtain ⟨b,hb⟩:∃ b,b=Maps.has (dX l) (jf ((n1,t1,x1),(n2,t2,x2),n3,t3,x3)):=⟨_,rfl⟩;have bR:=hid hb;have A_:=hid (show b=decide (((n1,t1,x1),(n2,t2,x2),n3,t3,x3)∈l) by rw [hb];exact zB (fun s hs=>xJ (iM.out s hs)) Bh.out);clear ho oH hb;cases b
        · have OI:=hid (of_decide_eq_false A_.out.symm);(go_wp2_with fail);refine uI.out.mono ?_;rintro e w2 ⟨rfl,nq,hw2⟩;have HB2:=hid (show Below w.heap.size w w2 by rw [hw2];exact aX HB.out _);have jr:=hid (show w2.ownsMap Tryz.prog 67 Go.unitElem w.heap.size n (dX l) by rw [hw2];exact HM.out);have HR2:=hid (show w2.ownsRow (w.heap.size+1) 67 9 u6 l.length (bK l) by rw [hw2];exact HR.out);clear hw2;(go_wp2_with fail);refine (uJ.out _ (HV.out.keep HB2.out) (HE.out.keep HB2.out)).mono ?_;rintro e w3 ⟨rfl,hlow⟩;have HB3:=hid (aA HB2.out hlow);have qd:=hid (AP jr.out hlow);have HR3:=hid (AQ HR2.out hlow);clear hlow;have aI:=hid (show Below w.heap.size w (aM w3 n1 t1 x1 n2 t2 x2 n3 t3 x3) from HB3.out.alloc HB3.out.size _);have gL:=hid (show (aM w3 n1 t1 x1 n2 t2 x2 n3 t3 x3).ownsMap Tryz.prog 67 Go.unitElem w.heap.size n (dX l) from qd.out.alloc _);have HR4:=hid (show (aM w3 n1 t1 x1 n2 t2 x2 n3 t3 x3).ownsRow (w.heap.size+1) 67 9 u6 l.length (bK l) from HR3.out.alloc _);have aL:=hid (fE w3 n1 t1 x1 n2 t2 x2 n3 t3 x3);(go_upto_region 15 with fail);show Code.wp _ _ _ _ (aM w3 n1 t1 x1 n2 t2 x2 n3 t3 x3);obtain ⟨w4,hw4⟩:∃ w4,w4=aM w3 n1 t1 x1 n2 t2 x2 n3 t3 x3:=⟨_,rfl⟩;rw [←hw4] at aI gL HR4 aL ⊢;clear hw4;have c0:=aL.out.cell (i:=0) rfl;have c1:=aL.out.cell (i:=1) rfl;have c2:=aL.out.cell (i:=2) rfl;have c3:=aL.out.cell (i:=3) rfl;have c4:=aL.out.cell (i:=4) rfl;have c5:=aL.out.cell (i:=5) rfl;have c6:=aL.out.cell (i:=6) rfl;have c7:=aL.out.cell (i:=7) rfl;have c8:=aL.out.cell (i:=8) rfl;(go_upto_region 16 with (at_lookup;refine wpList_lookup_own_unit _ rfl _ _ 137 rfl 67 142 nQ Tryz.underlying137 (xI _) w.heap.size n (dX l) rfl gL.out _ _ rfl HK.out ?_;rw [←bR.out]));clear c0 c1 c2 c3 c4 c5 c6 c7 c8;have aH:=hid (aI.out.alloc aI.out.size (.cells #[] 142));have iO:=hid (gL.out.alloc (.cells #[] 142));have dz:=hid (HR4.out.alloc (.cells #[] 142));have dZ:=hid (aL.out.alloc (.cells #[] 142));generalize w4.alloc (.cells #[] 142)=w5 at aH iO dz dZ ⊢;obtain ⟨a6,cap6,Gb⟩:∃ a6 cap6,u6=.slice a6 l.length cap6:=(by obtain ⟨a6,cap6,h,_⟩:=(Bf dz.out).open;rw [List.length_map] at h;exact ⟨a6,cap6,h⟩);obtain ⟨m,hm⟩:∃ m,m=l.length:=⟨_,rfl⟩;rw [←hm] at Gb hln dz;have qh:=hid hm;clear hm;by_cases Gc:m=100
          · have HF:=hid (show R=(3,n+1,[]) by have h:=HST.out;rw [if_neg OI.out,if_pos (by rw [←qh.out];exact Gc)] at h;exact h.symm);subst Gc;subst Gb;go_wp2;rw [Exit.noGoto_ret];go_ret3
            rw [HF.out];exact Ga rfl (by decide) rfl aH.out
          · have HF:=hid (show Tm.gq cr (n+1) (l++[((n1,t1,x1),(n2,t2,x2),n3,t3,x3)])=R by have h:=HST.out;rw [if_neg OI.out,if_neg (by rw [←qh.out];exact Gc)] at h;exact h);have agq:((m:Int)==100)=false:=beq_eq_false_iff_ne.2 (by omega);subst Gb;have c0:=dZ.out.cell (i:=0) rfl;have c1:=dZ.out.cell (i:=1) rfl;have c2:=dZ.out.cell (i:=2) rfl;have c3:=dZ.out.cell (i:=3) rfl;have c4:=dZ.out.cell (i:=4) rfl;have c5:=dZ.out.cell (i:=5) rfl;have c6:=dZ.out.cell (i:=6) rfl;have c7:=dZ.out.cell (i:=7) rfl;have c8:=dZ.out.cell (i:=8) rfl;(go_upto_region 20 with (at_mapUpdate;refine wpList_mapUpdate_own _ rfl _ _ _ 137 rfl 67 142 nQ Tryz.underlying137 _ w.heap.size n (dX l) rfl iO.out (by unfold maxLen;omega) _ _ _ rfl rfl HK.out (.agg []) [] Go.unitElem_mk ?_;intro w6 p8 kr));have aP:=hid (aH.out.grown kr aH.out.size (fun k hk=>by cases hk;omega));have rE:=hid (show w6.ownsMap Tryz.prog 67 Go.unitElem w.heap.size (n+1) (dX (l++[((n1,t1,x1),(n2,t2,x2),n3,t3,x3)])) by rw [Kl];exact p8);have uq:=hid (dz.out.kept kr (.inr (fun e=>by have:=dz.out.lt _ e;omega)));have aV:=hid (dZ.out.map kr (Np iO.out dZ.out));clear p8 kr c0 c1 c2 c3 c4 c5 c6 c7 c8;have c0:=aV.out.cell (i:=0) rfl;have c1:=aV.out.cell (i:=1) rfl;have c2:=aV.out.cell (i:=2) rfl;have c3:=aV.out.cell (i:=3) rfl;have c4:=aV.out.cell (i:=4) rfl;have c5:=aV.out.cell (i:=5) rfl;have c6:=aV.out.cell (i:=6) rfl;have c7:=aV.out.cell (i:=7) rfl;have c8:=aV.out.cell (i:=8) rfl;obtain ⟨iS,hi0,bH,bI,bJ⟩:=uo;have iL:=aP.out.size;(go_wp2_with (at_builtin;refine qI rfl (.tmp 59) (.tmp 61) 39 rfl (w.heap.size+1) 67 iS _ 9 120 Tryz.underlying39 hi0 bH bI bJ rfl (by decide) _ _ _ rfl (uq.out.alloc _) (some ⟨w6.heap.size,0,none⟩) 1 1 (aK ((n1,t1,x1),(n2,t2,x2),n3,t3,x3)).cells rfl (fun h=>by cases h) rfl (F9 w6 ((n1,t1,x1),(n2,t2,x2),n3,t3,x3)) (oG ((n1,t1,x1),(n2,t2,x2),n3,t3,x3)) (by unfold maxLen;omega) (by omega) (by simp;omega) ?_));intro v8 w8 g1 g2 g3;have kL:∀ k,(Value.slice a6 m cap6).ownBlock=some k→w.heap.size+1≤k:=fun k hk=>(uq.out.lt k hk).1;have aD:=hid ((aP.out.alloc iL _).grown g2 (by simp;omega) (fun k hk=>by have:=kL k hk;omega));have FL:=hid ((rE.out.alloc _).kept g2 (fun e=>by have:=kL _ e.symm;omega));have ow:=hid (show w8.ownsRow (w.heap.size+1) 67 9 v8 (l++[((n1,t1,x1),(n2,t2,x2),n3,t3,x3)]).length (bK (l++[((n1,t1,x1),(n2,t2,x2),n3,t3,x3)])) by rw [abJ,List.length_append,←qh.out];exact g1);clear g1 g2 g3 kL;go_wp2;go_roundg cr.length
            (case measure=>omega);case rel=>exact ⟨cr,n+1,_,rfl,by go_num,Nat.le_refl _,by omega,by omega,by rw [List.length_append,←qh.out];simp only [List.length_cons,List.length_nil];omega,by
             show ∀ s∈_,_;intro s hs;rcases List.mem_append.1 hs with hs | hs;{exact iM.out s hs}
             · rw [List.mem_singleton.1 hs];exact HT1.out,aD.out,FL.out,ow.out,HF.out⟩
        · have HF:=hid (show Tm.gq cr (n+1) l=R by have h:=HST.out;rw [if_pos (of_decide_eq_true A_.out.symm)] at h;exact h);(go_wp2_with fail);refine uI.out.mono ?_;rintro e w2 ⟨rfl,nq,hw2⟩;have HB2:=hid (show Below w.heap.size w w2 by rw [hw2];exact aX HB.out _);have jr:=hid (show w2.ownsMap Tryz.prog 67 Go.unitElem w.heap.size n (dX l) by rw [hw2];exact HM.out);have HR2:=hid (show w2.ownsRow (w.heap.size+1) 67 9 u6 l.length (bK l) by rw [hw2];exact HR.out);clear hw2;(go_wp2_with fail);refine (uJ.out _ (HV.out.keep HB2.out) (HE.out.keep HB2.out)).mono ?_;rintro e w3 ⟨rfl,hlow⟩;have HB3:=hid (aA HB2.out hlow);have qd:=hid (AP jr.out hlow);have HR3:=hid (AQ HR2.out hlow);clear hlow;have aI:=hid (show Below w.heap.size w (aM w3 n1 t1 x1 n2 t2 x2 n3 t3 x3) from HB3.out.alloc HB3.out.size _);have gL:=hid (show (aM w3 n1 t1 x1 n2 t2 x2 n3 t3 x3).ownsMap Tryz.prog 67 Go.unitElem w.heap.size n (dX l) from qd.out.alloc _);have HR4:=hid (show (aM w3 n1 t1 x1 n2 t2 x2 n3 t3 x3).ownsRow (w.heap.size+1) 67 9 u6 l.length (bK l) from HR3.out.alloc _);have aL:=hid (fE w3 n1 t1 x1 n2 t2 x2 n3 t3 x3);(go_upto_region 15 with fail);show Code.wp _ _ _ _ (aM w3 n1 t1 x1 n2 t2 x2 n3 t3 x3);obtain ⟨w4,hw4⟩:∃ w4,w4=aM w3 n1 t1 x1 n2 t2 x2 n3 t3 x3:=⟨_,rfl⟩;rw [←hw4] at aI gL HR4 aL ⊢;clear hw4;have c0:=aL.out.cell (i:=0) rfl;have c1:=aL.out.cell (i:=1) rfl;have c2:=aL.out.cell (i:=2) rfl;have c3:=aL.out.cell (i:=3) rfl;have c4:=aL.out.cell (i:=4) rfl;have c5:=aL.out.cell (i:=5) rfl;have c6:=aL.out.cell (i:=6) rfl;have c7:=aL.out.cell (i:=7) rfl;have c8:=aL.out.cell (i:=8) rfl;(go_upto_region 16 with (at_lookup;refine wpList_lookup_own_unit _ rfl _ _ 137 rfl 67 142 nQ Tryz.underlying137 (xI _) w.heap.size n (dX l) rfl gL.out _ _ rfl HK.out ?_;rw [←bR.out]));clear c0 c1 c2 c3 c4 c5 c6 c7 c8;have aH:=hid (aI.out.alloc aI.out.size (.cells #[] 142));have iO:=hid (gL.out.alloc (.cells #[] 142));have dz:=hid (HR4.out.alloc (.cells #[] 142));have dZ:=hid (aL.out.alloc (.cells #[] 142));generalize w4.alloc (.cells #[] 142)=w5 at aH iO dz dZ ⊢;go_wp2;go_roundg cr.length
          (case measure=>omega);case rel=>exact ⟨cr,n+1,l,rfl,by go_num,Nat.le_refl _,by omega,by omega,by omega,iM.out,aH.out,Fu iO.out,dz.out,HF.out⟩
end Go.Proofs.YtjaebndajhppgaaGreatDoor
