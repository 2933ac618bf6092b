/-SoClone-/
import Derived.Test.YtjaebndajhppgaaGreatDoorMnGTri
import Derived.Test.YtjaebndajhppgaaGreatDoorMnPrOne
import Derived.Test.YtjaebndajhppgaaGreatDoorMnGSort
import Derived.WalkMore
import Derived.Test.YtjaebndajhppgaaGreatDoorMnGPr1
set_option linter.unusedVariables false
set_option linter.unusedSimpArgs false
set_option maxRecDepth 100000
set_option maxHeartbeats 8000000
namespace Go.Proofs.YtjaebndajhppgaaGreatDoor
open Go.ChangeShapes Go.WideShapes Go.ChangeAt Go.RowKit
theorem bws_any (B b:Nat) (bs:List Value) (s:List UInt8) (w:World) (h:Lib.IsBuilder 174 5 B b bs w) (hlen:bs.length+s.length≤140737488355328) (hB:B≤w.heap.size) :
  Calls Tryz.prog 109 #[.pointer (some ⟨b,0,none⟩),str s] w fun e w'=>(∃ n:Int,e=.returned (.tuple #[.int .i64 n,.nilIface]))∧Lib.BuilderAt 174 5 B b (.pointer (some ⟨b,0,none⟩)) (bs++Lib.byteCells s) w'∧Below B w w':=by
 have L:Lays.n166 Tryz.prog Tryz.lays156_ren:={ Tryz.lays156 with }
 refine (Any.Builder_WriteString L Tryz.Builder_Extra_156 B b bs ⟨s.toArray⟩ w h (by simpa [ByteArray.size] using hlen) hB).mono ?_
 rintro e w' ⟨he,h1,h2⟩
 exact ⟨⟨_,he⟩,h1,h2⟩
theorem builder_keep {B b:Nat} {p:Value} {bs:List Value} {w w':World} (h:Lib.BuilderAt 174 5 B b p bs w) (hb:Below w.heap.size w w'):Lib.BuilderAt 174 5 B b p bs w':=by
 have hlt:=h.lt
 obtain ⟨h1,v,h2,h3,h4⟩:=h
 refine ⟨h1,v,?_,h3.kept (row:=none) ⟨hb.os,hb.tape,hb.output,hb.size,fun k hk _=>hb.block k hk⟩ ?_,h4⟩
 · rw [hb.block b hlt];exact h2
 · cases v.ownBlock <;> simp
theorem isb_keep {B b:Nat} {bs:List Value} {w w':World} (h:Lib.IsBuilder 174 5 B b bs w) (hb:Below w.heap.size w w'):Lib.IsBuilder 174 5 B b bs w':=by
 rcases h with h | h
 · exact .inl (builder_keep h hb)
 · exact .inr (builder_keep h hb)
theorem join3_any (b:Nat) (a1 a2 a3:List UInt8) (w:World) (h:Blk w b [str a1,str a2,str a3] 9) (h1:a1.length≤10000000000) (h2:a2.length≤10000000000) (h3:a3.length≤10000000000) :
  Calls Tryz.prog 110 #[.slice (some ⟨b,0,none⟩) 3 3,str [32]] w fun e w'=>e=.returned (str (a1++32::(a2++32::a3)))∧Below w.heap.size w w':=by
 have hj:Lib.join ([⟨a1.toArray⟩,⟨a2.toArray⟩,⟨a3.toArray⟩].map (fun x:ByteArray=>x.data.toList)) (⟨([32]:List UInt8).toArray⟩:ByteArray).data.toList=a1++32::(a2++32::a3):=by
  simp [Lib.join,List.intercalate]
 have:=Tryz.strings_Join b 0 3 [⟨a1.toArray⟩,⟨a2.toArray⟩,⟨a3.toArray⟩] ⟨([32]:List UInt8).toArray⟩ w (by
  intro j x hx
  match j,hx with
  | 0,hx=>simp only [List.getElem?_cons_zero,Option.some.injEq] at hx;rw [←hx];exact h.cell (i:=0) rfl
  | 1,hx=>simp only [List.getElem?_cons_succ,List.getElem?_cons_zero,Option.some.injEq] at hx;rw [←hx];exact h.cell (i:=1) rfl
  | 2,hx=>simp only [List.getElem?_cons_succ,List.getElem?_cons_zero,Option.some.injEq] at hx;rw [←hx];exact h.cell (i:=2) rfl
  | j+3,hx=>simp at hx) h.lt (by simp) (by simp) (by rw [hj];simp only [List.length_append,List.length_cons];omega)
 rw [hj] at this
 exact this
theorem byteCells_app (a b:List UInt8):Lib.byteCells a++Lib.byteCells b=Lib.byteCells (a++b):=by simp [Lib.byteCells]
def bigSum (L:List Tri):Int:=(L.map Tri.big).sum
theorem bigSum_snoc (L:List Tri) (t:Tri):bigSum (L++[t])=bigSum L+t.big:=by simp [bigSum]
def longB (L:List Tri):Bool:=decide (9000<bigSum L)
def mayB (L:List Tri):Bool:=L.all Tri.is
theorem isTri_nat (n1 n2 n3:Nat) (t1 x1 t2 x2 t3 x3:List UInt8):isTriI (n1:Nat) t1 x1 (n2:Nat) t2 x2 (n3:Nat) t3 x3=Tm.isTri ((n1,t1,x1),(n2,t2,x2),n3,t3,x3):=by
 unfold isTriI Tm.isTri Tm.isT
 simp only
 congr 1
 congr 1
 · congr 1;apply propext;omega
 · congr 1;apply propext;omega
theorem may_nat {L:List Tri} (h:mayB L=true):∃ M:List TR,L=M.map ofT∧∀ t∈M,Tm.isTri t=true:=by
 unfold mayB at h
 rw [List.all_eq_true] at h
 induction L with
 | nil=>exact ⟨[],rfl,fun t ht=>by cases ht⟩
 | cons a L ih=>
  obtain ⟨M,hM,hMt⟩:=ih (fun t ht=>h t (by simp [ht]))
  have ha:=h a (by simp)
  obtain ⟨k1,t1,x1,k2,t2,x2,k3,t3,x3⟩:=a
  have hi:isTriI k1 t1 x1 k2 t2 x2 k3 t3 x3=true:=ha
  have hi2:=hi
  unfold isTriI at hi2
  simp only [Bool.and_eq_true,decide_eq_true_eq] at hi2
  obtain ⟨n1,e1,_,_⟩:=Tm.is_kind hi2.2.1.1
  obtain ⟨n2,e2,_,_⟩:=Tm.is_kind hi2.2.1.2
  obtain ⟨n3,e3,_,_⟩:=Tm.is_kind hi2.2.2
  subst e1;subst e2;subst e3
  refine ⟨((n1,t1,x1),(n2,t2,x2),n3,t3,x3)::M,by rw [hM];rfl,fun t ht=>?_⟩
  rcases List.mem_cons.1 ht with rfl | ht
  · have:=isTri_nat n1 n2 n3 t1 x1 t2 x2 t3 x3
    rw [←this];exact hi
  · exact hMt t ht
theorem ba_app (a b:List UInt8):(⟨a.toArray⟩:ByteArray)++⟨b.toArray⟩=⟨(a++b).toArray⟩:=by
 apply ByteArray.ext;simp
theorem line_parts (t:TR):Tm.lineS t++[10]=Tm.showT t.1.1 t.1.2.1 t.1.2.2++[32]++Tm.showT t.2.1.1 t.2.1.2.1 t.2.1.2.2++[32]++Tm.showT t.2.2.1 t.2.2.2.1 t.2.2.2.2++[32,46,10]:=by
 unfold Tm.lineS;simp
theorem rprint_any (L:List TR) (hl:∀ t∈L,Tm.isTri t=true) (hn:L.length≤1000000) (w:World) (v:Value) (hv:TrisAt w v (L.map ofT)) :
  Calls Tryz.prog 21 #[v] w fun e w'=>e=.returned (str (Tm.printL L))∧Below w.heap.size w w':=by
 obtain ⟨a,cap,rfl,hc1,hc2,hc3⟩:=hv.open
 have HV:=hid hv
 have HL:=hid hl
 rw [List.length_map] at HV ⊢
 obtain ⟨n,hn0⟩:∃ n,n=L.length:=⟨_,rfl⟩
 rw [←hn0] at HV hn ⊢
 have HN:=hid hn0
 clear hv hl hc1 hc2 hc3 hn0
 go_enter Tryz.func21,Tryz.ntmps21
 go_wp2
 go_loopg [3,4] n (fun gk s3 s4 wr=>∃ (i:Nat) (s:List UInt8),s3=str s∧s4=.int .i64 i∧i≤n∧n-i≤gk∧Hid (Below w.heap.size w wr)∧Hid (s=Tm.printL (L.take i))∧s.length≤801*i)
 case atStart=>exact ⟨0,[],rfl,rfl,Nat.zero_le _,Nat.le_refl _,Below.refl _ _,hid rfl,by simp⟩
 case round=>
  obtain ⟨i,s,rfl,rfl,hin,hg,HB,HS,hsl⟩:=hrel
  by_cases hlt:i<n
  · have hltz:(i:Int)<(n:Int):=by omega
    have hiL:i<L.length:=by rw [←HN.out];exact hlt
    have HT1:=hid (HL.out L[i] (List.getElem_mem hiL))
    have HVr:=hid (HV.out.keep HB.out)
    obtain ⟨bl,off,rfl,hrow⟩:=HVr.out.get (i:=i) (by rw [List.length_map];exact hiL)
    have HRW:=hid (hrow i (by rw [List.length_map];exact hiL))
    rw [List.getElem_map] at HRW
    have HTK:=hid (show Tm.printL (L.take (i+1))=Tm.printL (L.take i)++(Tm.lineS L[i]++[10]) by
     rw [List.take_add_one,List.getElem?_eq_getElem hiL];exact Tm.printL_snoc _ _)
    obtain ⟨t,ht⟩:∃ t,t=L[i]:=⟨_,rfl⟩
    rw [←ht] at HT1 HRW HTK
    obtain ⟨p1,p2,q1,q2,q3⟩:=Tm.isTri_parts HT1.out
    have b1:=Tm.show_len q1
    have b2:=Tm.show_len q2
    have b3:=Tm.show_len q3
    obtain ⟨e1,f1,g1,h1⟩:=Tm.is_kind q1
    obtain ⟨e2,f2,g2,h2⟩:=Tm.is_kind q2
    obtain ⟨e3,f3,g3,h3⟩:=Tm.is_kind q3
    have LP:=hid (line_parts t)
    obtain ⟨⟨n1,t1,x1⟩,⟨n2,t2,x2⟩,n3,t3,x3⟩:=t
    simp only at b1 b2 b3 f1 f2 f3
    have S1:=hid (fun W=>rshow_any n1 t1 x1 W (by omega) (by omega) (by omega))
    have S2:=hid (fun W=>rshow_any n2 t2 x2 W (by omega) (by omega) (by omega))
    have S3:=hid (fun W=>rshow_any n3 t3 x3 W (by omega) (by omega) (by omega))
    simp only at LP
    obtain ⟨y1,hy1⟩:∃ y,y=Tm.showT n1 t1 x1:=⟨_,rfl⟩
    obtain ⟨y2,hy2⟩:∃ y,y=Tm.showT n2 t2 x2:=⟨_,rfl⟩
    obtain ⟨y3,hy3⟩:∃ y,y=Tm.showT n3 t3 x3:=⟨_,rfl⟩
    rw [←hy1] at S1 LP b1
    rw [←hy2] at S2 LP b2
    rw [←hy3] at S3 LP b3
    have d1:=b1.1
    have d2:=b2.1
    have d3:=b3.1
    clear ht hrow q1 q2 q3 p1 p2 b1 b2 b3 e1 f1 g1 h1 e2 f2 g2 h2 e3 f3 g3 h3 hy1 hy2 hy3
    have c0:=HRW.out 0 (by omega)
    have c1:=HRW.out 1 (by omega)
    have c2:=HRW.out 2 (by omega)
    have c3:=HRW.out 3 (by omega)
    have c4:=HRW.out 4 (by omega)
    have c5:=HRW.out 5 (by omega)
    have c6:=HRW.out 6 (by omega)
    have c7:=HRW.out 7 (by omega)
    have c8:=HRW.out 8 (by omega)
    simp only [ofT,Tri.cells,List.getElem?_cons_zero,List.getElem?_cons_succ,Nat.add_zero] at c0 c1 c2 c3 c4 c5 c6 c7 c8
    have k0:=fun p:Later wr.heap.size wr=>p.keep c0
    have k1:=fun p:Later wr.heap.size wr=>p.keep c1
    have k2:=fun p:Later wr.heap.size wr=>p.keep c2
    have k3:=fun p:Later wr.heap.size wr=>p.keep c3
    have k4:=fun p:Later wr.heap.size wr=>p.keep c4
    have k5:=fun p:Later wr.heap.size wr=>p.keep c5
    have k6:=fun p:Later wr.heap.size wr=>p.keep c6
    have k7:=fun p:Later wr.heap.size wr=>p.keep c7
    have k8:=fun p:Later wr.heap.size wr=>p.keep c8
    have l1:(s++y1).length≤900000000:=by rw [List.length_append];omega
    have l2:(s++y1++[32]).length≤900000000:=by simp only [List.length_append,List.length_cons,List.length_nil];omega
    have l3:(s++y1++[32]++y2).length≤900000000:=by simp only [List.length_append,List.length_cons,List.length_nil];omega
    have l4:(s++y1++[32]++y2++[32]).length≤900000000:=by simp only [List.length_append,List.length_cons,List.length_nil];omega
    have l5:(s++y1++[32]++y2++[32]++y3).length≤900000000:=by simp only [List.length_append,List.length_cons,List.length_nil];omega
    go_upto_region 5 with fail
    refine wp_region_later wr.heap.size (by kernel_rfl) (by kernel_rfl) ?_
    repeat (go_big_quiet_step (first | (go_at_call 63;with_reducible exact Later.call (Nat.le_refl _) (S1.out _)) | (go_at_call 63;with_reducible exact Later.call (Nat.le_refl _) (S2.out _)) | (go_at_call 63;with_reducible exact Later.call (Nat.le_refl _) (S3.out _))))
    refine wpQuiet_nil ?_
    rintro wq ⟨q,hq⟩
    have HBq:=hid (show Below w.heap.size w wq by rw [hq];exact below_then HB.out q.low)
    have HSN:=hid (show s++y1++[32]++y2++[32]++y3++[32,46,10]=Tm.printL (L.take (i+1)) by rw [HTK.out,LP.out,←HS.out];simp only [List.append_assoc])
    clear hq q k0 k1 k2 k3 k4 k5 k6 k7 k8
    go_wp2
    go_roundg (n-(i+1))
    case measure=>omega
    case rel=>exact ⟨i+1,s++y1++[32]++y2++[32]++y3++[32,46,10],by simp [str,ba_app],by go_num,by omega,by omega,HBq.out,HSN.out,by simp only [List.length_append,List.length_cons,List.length_nil];omega⟩
  · obtain rfl:i=n:=by omega
    have hltz:¬ (i:Int)<(i:Int):=by omega
    have HE:=hid (show s=Tm.printL L by rw [HS.out,HN.out,List.take_length])
    go_wp2
    go_ret
    exact ⟨by rw [←HE.out];rfl,HB.out⟩
theorem cutline_any (s:List UInt8) (w:World) (hs:s.length≤1000000) (hM:MaxAt w) :
  Calls Tryz.prog 83 #[str s] w fun e w'=>e=.returned (.tuple #[str (Tm.cutP s).1,str (Tm.cutP s).2])∧∃ n,w'=w.drewN n:=by
 have CT:=hid (fun (W:World) (h:MaxAt W)=>Tryz.strings_Cut ⟨s.toArray⟩ ⟨([10]:List UInt8).toArray⟩ h.choose W (by simp [ByteArray.size];omega) h.choose_spec)
 have hlen:(Lib.cut s [10]).1.length≤s.length:=by unfold Lib.cut;split <;> simp;omega
 obtain ⟨l,r,b,hc⟩:∃ l r b,Lib.cut s [10]=(l,r,b):=⟨_,_,_,rfl⟩
 have CT2:Hid (∀ W,MaxAt W→Calls Tryz.prog 120 #[str s,str [10]] W fun e w'=>e=.returned (.tuple #[str l,str r,.bool b])∧∃ n,w'=W.drewN n):=by
  intro W h
  have:=CT.out W h
  simp only [List.toList_toArray] at this
  rw [hc] at this
  exact this
 rw [hc] at hlen
 have HP:=hid (show Tm.cutP s=if b=true then (Lib.trimSuffix l [13],r) else (l,r) by unfold Tm.cutP;rw [hc])
 have TM:=hid (fun W=>Tryz.strings_TrimSuffix ⟨l.toArray⟩ ⟨([13]:List UInt8).toArray⟩ W (by simp [ByteArray.size];simp only at hlen;omega))
 have TM2:Hid (∀ W,Calls Tryz.prog 121 #[str l,str [13]] W fun e w'=>e=.returned (str (Lib.trimSuffix l [13]))∧w'=W):=TM
 have HM:=hid hM
 clear CT hlen hc hM TM
 cases b
 · have HQ:=hid (show Tm.cutP s=(l,r) from HP.out)
   rw [HQ.out]
   go_enter Tryz.func83,Tryz.ntmps83
   go_wp2_with fail
   refine (CT2.out _ HM.out).mono ?_
   rintro e w2 ⟨rfl,n,rfl⟩
   go_wp2
   go_ret2
   exact ⟨rfl,n,rfl⟩
 · have HQ:=hid (show Tm.cutP s=(Lib.trimSuffix l [13],r) from HP.out)
   rw [HQ.out]
   go_enter Tryz.func83,Tryz.ntmps83
   go_wp2_with fail
   refine (CT2.out _ HM.out).mono ?_
   rintro e w2 ⟨rfl,n,rfl⟩
   go_wp2_with fail
   refine (TM2.out _).mono ?_
   rintro e w3 ⟨rfl,rfl⟩
   go_wp2
   go_ret2
   exact ⟨rfl,n,rfl⟩
def rowCells (l:List TR):List Value:=l.flatMap fun t=>(ofT t).cells
theorem rowCells_snoc (l:List TR) (t:TR):rowCells (l++[t])=rowCells l++(ofT t).cells:=by simp [rowCells]
theorem rowCells_get:∀ (D:List TR) (i c:Nat) (hi:i<D.length),c<9→(rowCells D)[i*9+c]?=(ofT D[i]).cells[c]?
 | [],i,c,hi,_=>by simp at hi
 | p::D,0,c,hi,hc=>by
  show ((ofT p).cells++rowCells D)[0*9+c]?=_
  rw [List.getElem?_append_left (by show _<9;omega),Nat.zero_mul,Nat.zero_add];rfl
 | p::D,i+1,c,hi,hc=>by
  show ((ofT p).cells++rowCells D)[(i+1)*9+c]?=_
  rw [List.getElem?_append_right (by show 9≤_;omega),show (i+1)*9+c-(ofT p).cells.length=i*9+c by show _-9=_;omega]
  exact rowCells_get D i c (by simpa using hi) hc
theorem tris_own {w:World} {B:Nat} {v:Value} {l:List TR} (h:w.ownsRow B 67 9 v l.length (rowCells l)):TrisAt w v (l.map ofT):=by
 rcases h.2 with ⟨rfl,h0⟩ | ⟨g,cap,cur,hv,hg,hh,hnc,hcm,hcs,htake⟩
 · have:l=[]:=List.eq_nil_of_length_eq_zero h0
   subst this;exact TrisAt.nil w
 · subst hv
   refine ⟨_,cap,by rw [List.length_map],by rw [List.length_map];exact hnc,hcm,(fun h=>by cases h),.inr ⟨g,0,rfl,fun i hi c hc=>?_⟩⟩
   have hi':i<l.length:=by simpa using hi
   have hc9:c<(ofT l[i]).cells.length:=hc
   have h1:=rowCells_get l i c hi' hc
   rw [Nat.zero_add,List.getElem_map,←h1]
   rw [h.cellAt (i*9+c) (by omega)]
theorem tri_one (p:TR):∀ u∈(ofT p).cells,u.oneCell'=true:=by
 intro u hu;simp [Tri.cells,ofT] at hu;rcases hu with rfl | rfl | rfl | rfl | rfl | rfl | rfl | rfl | rfl <;> rfl
theorem news9 (W:World) (p:TR):∀ ad,some (⟨W.heap.size,0,none⟩:Addr)=some ad→∀ j u,((ofT p).cells)[j]?=some u→(W.alloc (.cells (ofT p).cells.toArray 67)).cell? (ad.add j)=some u:=by
 intro ad had j u hu
 cases had
 rw [add_cell rfl,Nat.zero_add,cell_new,←Array.getElem?_toList]
 exact hu
theorem one_tri {s:List UInt8} {t:TR} (h:Tm.one s=some (some t)):Tm.isTri t=true:=by
 unfold Tm.one at h
 split at h
 · cases h
 · split at h
   · cases h
   · split at h
     · cases h
     · split at h
       · rename_i hh
         simp only [Option.some.injEq] at h
         subst h;exact hh.2
       · cases h
theorem zero_ok:okTR ((0,[],[]),(0,[],[]),0,[],[]):=⟨⟨Nat.zero_le _,Nat.zero_le _,Nat.zero_le _⟩,⟨Nat.zero_le _,Nat.zero_le _,Nat.zero_le _⟩,Nat.zero_le _,Nat.zero_le _,Nat.zero_le _⟩
def ParsePost (w:World) (r:Nat×Nat×List TR) (e:Ending) (w':World):Prop:=
 ∃ v,e=.returned (.tuple #[v,.int .i64 (r.2.1:Nat),.int .i64 (r.1:Nat)])∧TrisAt w' v ((if r.1=0 then Tm.rsort r.2.2 else []).map ofT)∧Below w.heap.size w w'
theorem parse_err {w w':World} {E N:Nat} {l:List TR} {n e:Nat} (hE:E=e) (he:e≠0) (hN:N=n) (hB:Below w.heap.size w w'):ParsePost w (E,N,l) (.returned (.tuple #[.slice none 0 0,.int .i64 (n:Nat),.int .i64 (e:Nat)])) w':=by
 subst hE;subst hN
 exact ⟨_,rfl,by simp only [if_neg he];exact TrisAt.nil _,hB⟩
theorem pparse_any (s:List UInt8) (w:World) (hV:Vars w) (hE:ErrAt w) (hl:s.length≤20000) (R:Nat×Nat×List TR) (hans:Tm.plU s 0 []=R) :
  Calls Tryz.prog 42 #[str s] w (ParsePost w R):=by
 have hmm:=@run_makeMap Tryz.prog
 have HV:=hid hV
 have HE:=hid hE
 have HA:=hid hans
 have PO:=hid (fun (u:List UInt8) (W:World) hV hE hu=>pone_any u W hV hE hu)
 have CU:=hid (fun (u:List UInt8) (W:World) hu hM=>cutline_any u W hu hM)
 have HB0:=hid (show Below w.heap.size w (w.alloc (.map #[] 0)) from (Below.refl _ _).alloc (Nat.le_refl _) _)
 have HM0:=hid (show (w.alloc (.map #[] 0)).ownsMap Tryz.prog 67 Go.unitElem w.heap.size 0 (seenD []) from World.ownsMap_made _ _ _ _)
 clear hV hE hans
 go_enter Tryz.func42,Tryz.ntmps42
 go_wp2
 go_step3
 go_wp2
 go_step3
 go_wp2
 go_loopg [0,5,6,8,9,10,11,12,13,14] s.length (fun gk s0 s5 s6 s8 s9 s10 s11 s12 s13 s14 wr=>∃ (u:List UInt8) (n:Nat) (l:List TR),s0=str u∧s5=.int .i64 n∧u.length≤gk∧u.length≤s.length∧n≤200∧l.length≤n∧Hid (∀ t∈l,Tm.isTri t=true)∧Hid (Below w.heap.size w wr)∧Hid (wr.ownsMap Tryz.prog 67 Go.unitElem w.heap.size n (seenD l))∧Hid (wr.ownsRow (w.heap.size+1) 67 9 s6 l.length (rowCells l))∧Hid (Tm.plU u n l=R))
 case atStart=>exact ⟨s,0,[],rfl,rfl,Nat.le_refl _,Nat.le_refl _,by omega,Nat.le_refl _,hid (fun t h=>by cases h),HB0,HM0,World.ownsRow_nil _ _ _ _,HA⟩
 case round=>
  obtain ⟨u,n,l,rfl,rfl,hg,hul,hn,hln,HOK,HB,HM,HR,HP⟩:=hrel
  have hzr:=HM.out.lt
  rcases u with _ | ⟨c,v⟩
  · have HF:=hid (show R=(0,n,l) from HP.out.symm)
    have SO:=hid (psort_any l HOK.out (by omega) wr u6 (tris_own HR.out))
    go_wp2_with fail
    refine SO.out.mono ?_
    rintro e w2 ⟨v2,rfl,hv2,hlow⟩
    have HV2:=hid hv2
    have HB2:=hid (below_then HB.out hlow)
    clear hv2 hlow
    go_wp2
    go_ret3
    rw [HF.out]
    exact ⟨v2,rfl,HV2.out,HB2.out⟩
  · have hu:(c::v:List UInt8)≠[]:=by simp
    have hue:((c::v:List UInt8) != [])=true:=rfl
    have hcl:=Tm.cutP_len hu
    have HS:=hid (Tm.plU_step hu n l)
    have CU1:=hid (CU.out (c::v) wr (by omega) ((HV.out.keep HB.out).2))
    have hc1:(Tm.cutP (c::v)).1.length≤1000000:=by
     have:=Tm.cutP_line (c::v)
     omega
    obtain ⟨cl,cr,hcc⟩:∃ cl cr,Tm.cutP (c::v)=(cl,cr):=⟨_,_,rfl⟩
    rw [hcc] at CU1 HS hcl hc1
    have PO1:=hid (fun W hV hE=>PO.out cl W hV hE hc1)
    clear hu hcc
    by_cases h200:200<n+1
    · have hz:(200:Int)<(n:Int)+1:=by omega
      have HF:=hid (show R=(3,n+1,[]) by
       have h:=HP.out
       rw [HS.out,if_pos h200] at h
       exact h.symm)
      go_wp2_with fail
      refine CU1.out.mono ?_
      rintro e w2 ⟨rfl,nq,rfl⟩
      go_wp2
      rw [Exit.noGoto_ret]
      go_ret3
      rw [HF.out]
      exact parse_err rfl (by decide) rfl (below_drawn HB.out _)
    · have hz:(n:Int)+1≤200:=by omega
      cases ho:Tm.one cl with
      | none=>
       have HF:=hid (show R=(2,n+1,[]) by
        have h:=HP.out
        rw [HS.out,if_neg h200] at h
        simp only [ho] at h
        exact h.symm)
       rw [ho] at PO1
       have PO2:Hid (∀ W,Vars W→ErrAt W→Calls Tryz.prog 84 #[str cl] W fun e w'=>e=.returned (.tuple #[.agg z9.toArray,.bool false,.bool false])∧Below W.heap.size W w'):=PO1
       clear ho PO1
       go_wp2_with fail
       refine CU1.out.mono ?_
       rintro e w2 ⟨rfl,nq,hw2⟩
       have HB2:=hid (show Below w.heap.size w w2 by rw [hw2];exact below_drawn HB.out _)
       clear hw2
       go_wp2_with fail
       refine (PO2.out _ (HV.out.keep HB2.out) (HE.out.keep HB2.out)).mono ?_
       rintro e w3 ⟨rfl,hlow⟩
       have HB3:=hid (below_then HB2.out hlow)
       clear hlow
       go_wp2
       rw [Exit.noGoto_ret]
       go_ret3
       rw [HF.out]
       exact parse_err rfl (by decide) rfl (HB3.out.alloc HB3.out.size _)
      | some o=>
       cases o with
       | none=>
        have HF:=hid (show Tm.plU cr (n+1) l=R by
         have h:=HP.out
         rw [HS.out,if_neg h200] at h
         simp only [ho] at h
         exact h)
        rw [ho] at PO1
        obtain ⟨t,HOT,PO2⟩:∃ t:TR,Hid (okTR t)∧Hid (∀ W,Vars W→ErrAt W→Calls Tryz.prog 84 #[str cl] W fun e w'=>e=.returned (.tuple #[trV t,.bool false,.bool true])∧Below W.heap.size W w'):=⟨((0,[],[]),(0,[],[]),0,[],[]),zero_ok,PO1⟩
        obtain ⟨⟨n1,t1,x1⟩,⟨n2,t2,x2⟩,n3,t3,x3⟩:=t
        have HK:=hid (show keyOf Tryz.prog 67 (trV ((n1,t1,x1),(n2,t2,x2),n3,t3,x3))=some (trK ((n1,t1,x1),(n2,t2,x2),n3,t3,x3)) from trK_key HOT.out)
        obtain ⟨b,hb⟩:∃ b,b=Maps.has (seenD l) (trK ((n1,t1,x1),(n2,t2,x2),n3,t3,x3)):=⟨_,rfl⟩
        have HBB:=hid hb
        clear ho PO1 hb
        cases b
        all_goals
         go_wp2_with fail
         refine CU1.out.mono ?_
         rintro e w2 ⟨rfl,nq,hw2⟩
         have HB2:=hid (show Below w.heap.size w w2 by rw [hw2];exact below_drawn HB.out _)
         have HM2:=hid (show w2.ownsMap Tryz.prog 67 Go.unitElem w.heap.size n (seenD l) by rw [hw2];exact HM.out)
         have HR2:=hid (show w2.ownsRow (w.heap.size+1) 67 9 u6 l.length (rowCells l) by rw [hw2];exact HR.out)
         clear hw2
         go_wp2_with fail
         refine (PO2.out _ (HV.out.keep HB2.out) (HE.out.keep HB2.out)).mono ?_
         rintro e w3 ⟨rfl,hlow⟩
         have HB3:=hid (below_then HB2.out hlow)
         have HM3:=hid (map_below HM2.out hlow)
         have HR3:=hid (row_below HR2.out hlow)
         clear hlow
         have HB4:=hid (show Below w.heap.size w (new9 w3 n1 t1 x1 n2 t2 x2 n3 t3 x3) from HB3.out.alloc HB3.out.size _)
         have HM4:=hid (show (new9 w3 n1 t1 x1 n2 t2 x2 n3 t3 x3).ownsMap Tryz.prog 67 Go.unitElem w.heap.size n (seenD l) from HM3.out.alloc _)
         have HR4:=hid (show (new9 w3 n1 t1 x1 n2 t2 x2 n3 t3 x3).ownsRow (w.heap.size+1) 67 9 u6 l.length (rowCells l) from HR3.out.alloc _)
         have HU4:=hid (new9_new w3 n1 t1 x1 n2 t2 x2 n3 t3 x3)
         go_upto_region 15 with fail
         show Code.wp _ _ _ _ (new9 w3 n1 t1 x1 n2 t2 x2 n3 t3 x3)
         obtain ⟨w4,hw4⟩:∃ w4,w4=new9 w3 n1 t1 x1 n2 t2 x2 n3 t3 x3:=⟨_,rfl⟩
         rw [←hw4] at HB4 HM4 HR4 HU4 ⊢
         clear hw4
         have c0:=HU4.out.cell (i:=0) rfl
         have c1:=HU4.out.cell (i:=1) rfl
         have c2:=HU4.out.cell (i:=2) rfl
         have c3:=HU4.out.cell (i:=3) rfl
         have c4:=HU4.out.cell (i:=4) rfl
         have c5:=HU4.out.cell (i:=5) rfl
         have c6:=HU4.out.cell (i:=6) rfl
         have c7:=HU4.out.cell (i:=7) rfl
         have c8:=HU4.out.cell (i:=8) rfl
         go_upto_region 16 with (at_lookup;refine wpList_lookup_own_unit _ rfl _ _ 137 rfl 67 142 tri_keyed Tryz.underlying137 (zero_unit _) w.heap.size n (seenD l) rfl HM4.out _ _ rfl HK.out ?_;rw [←HBB.out])
         clear c0 c1 c2 c3 c4 c5 c6 c7 c8
         have HB5:=hid (HB4.out.alloc HB4.out.size (.cells #[] 142))
         have HM5:=hid (HM4.out.alloc (.cells #[] 142))
         have HR5:=hid (HR4.out.alloc (.cells #[] 142))
         have HU5:=hid (HU4.out.alloc (.cells #[] 142))
         generalize w4.alloc (.cells #[] 142)=w5 at HB5 HM5 HR5 HU5 ⊢
         go_wp2
         go_roundg cr.length
         case measure=>omega
         case rel=>exact ⟨cr,n+1,l,rfl,by go_num,Nat.le_refl _,by omega,by omega,by omega,HOK.out,HB5.out,map_more HM5.out,HR5.out,HF.out⟩
       | some t=>
        have HT1:=hid (one_tri ho)
        have HOT:=hid (tri_ok HT1.out)
        have HST:=hid (show (if t∈l then Tm.plU cr (n+1) l else if l.length=100 then (3,n+1,[]) else Tm.plU cr (n+1) (l++[t]))=R by
         have h:=HP.out
         rw [HS.out,if_neg h200] at h
         simp only [ho] at h
         exact h)
        rw [ho] at PO1
        obtain ⟨⟨n1,t1,x1⟩,⟨n2,t2,x2⟩,n3,t3,x3⟩:=t
        have PO2:Hid (∀ W,Vars W→ErrAt W→Calls Tryz.prog 84 #[str cl] W fun e w'=>e=.returned (.tuple #[triV (n1:Nat) t1 x1 (n2:Nat) t2 x2 (n3:Nat) t3 x3,.bool true,.bool true])∧Below W.heap.size W w'):=PO1
        have HK:=hid (show keyOf Tryz.prog 67 (trV ((n1,t1,x1),(n2,t2,x2),n3,t3,x3))=some (trK ((n1,t1,x1),(n2,t2,x2),n3,t3,x3)) from trK_key HOT.out)
        obtain ⟨b,hb⟩:∃ b,b=Maps.has (seenD l) (trK ((n1,t1,x1),(n2,t2,x2),n3,t3,x3)):=⟨_,rfl⟩
        have HBB:=hid hb
        have HIN:=hid (show b=decide (((n1,t1,x1),(n2,t2,x2),n3,t3,x3)∈l) by rw [hb];exact seen_has (fun s hs=>tri_ok (HOK.out s hs)) HOT.out)
        clear ho PO1 hb
        cases b
        · have HNI:=hid (of_decide_eq_false HIN.out.symm)
          go_wp2_with fail
          refine CU1.out.mono ?_
          rintro e w2 ⟨rfl,nq,hw2⟩
          have HB2:=hid (show Below w.heap.size w w2 by rw [hw2];exact below_drawn HB.out _)
          have HM2:=hid (show w2.ownsMap Tryz.prog 67 Go.unitElem w.heap.size n (seenD l) by rw [hw2];exact HM.out)
          have HR2:=hid (show w2.ownsRow (w.heap.size+1) 67 9 u6 l.length (rowCells l) by rw [hw2];exact HR.out)
          clear hw2
          go_wp2_with fail
          refine (PO2.out _ (HV.out.keep HB2.out) (HE.out.keep HB2.out)).mono ?_
          rintro e w3 ⟨rfl,hlow⟩
          have HB3:=hid (below_then HB2.out hlow)
          have HM3:=hid (map_below HM2.out hlow)
          have HR3:=hid (row_below HR2.out hlow)
          clear hlow
          have HB4:=hid (show Below w.heap.size w (new9 w3 n1 t1 x1 n2 t2 x2 n3 t3 x3) from HB3.out.alloc HB3.out.size _)
          have HM4:=hid (show (new9 w3 n1 t1 x1 n2 t2 x2 n3 t3 x3).ownsMap Tryz.prog 67 Go.unitElem w.heap.size n (seenD l) from HM3.out.alloc _)
          have HR4:=hid (show (new9 w3 n1 t1 x1 n2 t2 x2 n3 t3 x3).ownsRow (w.heap.size+1) 67 9 u6 l.length (rowCells l) from HR3.out.alloc _)
          have HU4:=hid (new9_new w3 n1 t1 x1 n2 t2 x2 n3 t3 x3)
          go_upto_region 15 with fail
          show Code.wp _ _ _ _ (new9 w3 n1 t1 x1 n2 t2 x2 n3 t3 x3)
          obtain ⟨w4,hw4⟩:∃ w4,w4=new9 w3 n1 t1 x1 n2 t2 x2 n3 t3 x3:=⟨_,rfl⟩
          rw [←hw4] at HB4 HM4 HR4 HU4 ⊢
          clear hw4
          have c0:=HU4.out.cell (i:=0) rfl
          have c1:=HU4.out.cell (i:=1) rfl
          have c2:=HU4.out.cell (i:=2) rfl
          have c3:=HU4.out.cell (i:=3) rfl
          have c4:=HU4.out.cell (i:=4) rfl
          have c5:=HU4.out.cell (i:=5) rfl
          have c6:=HU4.out.cell (i:=6) rfl
          have c7:=HU4.out.cell (i:=7) rfl
          have c8:=HU4.out.cell (i:=8) rfl
          go_upto_region 16 with (at_lookup;refine wpList_lookup_own_unit _ rfl _ _ 137 rfl 67 142 tri_keyed Tryz.underlying137 (zero_unit _) w.heap.size n (seenD l) rfl HM4.out _ _ rfl HK.out ?_;rw [←HBB.out])
          clear c0 c1 c2 c3 c4 c5 c6 c7 c8
          have HB5:=hid (HB4.out.alloc HB4.out.size (.cells #[] 142))
          have HM5:=hid (HM4.out.alloc (.cells #[] 142))
          have HR5:=hid (HR4.out.alloc (.cells #[] 142))
          have HU5:=hid (HU4.out.alloc (.cells #[] 142))
          generalize w4.alloc (.cells #[] 142)=w5 at HB5 HM5 HR5 HU5 ⊢
          obtain ⟨a6,cap6,hu6⟩:∃ a6 cap6,u6=.slice a6 l.length cap6:=by
           obtain ⟨a6,cap6,h,_⟩:=(tris_own HR5.out).open
           rw [List.length_map] at h;exact ⟨a6,cap6,h⟩
          obtain ⟨m,hm⟩:∃ m,m=l.length:=⟨_,rfl⟩
          rw [←hm] at hu6 hln HR5
          have HMM:=hid hm
          clear hm
          by_cases hl100:m=100
          · have HF:=hid (show R=(3,n+1,[]) by
             have h:=HST.out
             rw [if_neg HNI.out,if_pos (by rw [←HMM.out];exact hl100)] at h
             exact h.symm)
            subst hl100
            subst hu6
            go_wp2
            rw [Exit.noGoto_ret]
            go_ret3
            rw [HF.out]
            exact parse_err rfl (by decide) rfl HB5.out
          · have HF:=hid (show Tm.plU cr (n+1) (l++[((n1,t1,x1),(n2,t2,x2),n3,t3,x3)])=R by
             have h:=HST.out
             rw [if_neg HNI.out,if_neg (by rw [←HMM.out];exact hl100)] at h
             exact h)
            have hm100:((m:Int)==100)=false:=beq_eq_false_iff_ne.2 (by omega)
            subst hu6
            have c0:=HU5.out.cell (i:=0) rfl
            have c1:=HU5.out.cell (i:=1) rfl
            have c2:=HU5.out.cell (i:=2) rfl
            have c3:=HU5.out.cell (i:=3) rfl
            have c4:=HU5.out.cell (i:=4) rfl
            have c5:=HU5.out.cell (i:=5) rfl
            have c6:=HU5.out.cell (i:=6) rfl
            have c7:=HU5.out.cell (i:=7) rfl
            have c8:=HU5.out.cell (i:=8) rfl
            go_upto_region 20 with (at_mapUpdate;refine wpList_mapUpdate_own _ rfl _ _ _ 137 rfl 67 142 tri_keyed Tryz.underlying137 _ w.heap.size n (seenD l) rfl HM5.out (by unfold maxLen;omega) _ _ _ rfl rfl HK.out (.agg []) [] Go.unitElem_mk ?_;intro w6 hM6 hg6)
            have HB6:=hid (HB5.out.grown hg6 HB5.out.size (fun k hk=>by cases hk;omega))
            have HM6:=hid (show w6.ownsMap Tryz.prog 67 Go.unitElem w.heap.size (n+1) (seenD (l++[((n1,t1,x1),(n2,t2,x2),n3,t3,x3)])) by rw [seen_snoc];exact hM6)
            have HR6:=hid (HR5.out.kept hg6 (.inr (fun e=>by have:=HR5.out.lt _ e;omega)))
            have HU6:=hid (HU5.out.map hg6 (map_not_cells HM5.out HU5.out))
            clear hM6 hg6 c0 c1 c2 c3 c4 c5 c6 c7 c8
            have c0:=HU6.out.cell (i:=0) rfl
            have c1:=HU6.out.cell (i:=1) rfl
            have c2:=HU6.out.cell (i:=2) rfl
            have c3:=HU6.out.cell (i:=3) rfl
            have c4:=HU6.out.cell (i:=4) rfl
            have c5:=HU6.out.cell (i:=5) rfl
            have c6:=HU6.out.cell (i:=6) rfl
            have c7:=HU6.out.cell (i:=7) rfl
            have c8:=HU6.out.cell (i:=8) rfl
            obtain ⟨iS,hi0,hzS,hszS,hbyS⟩:=info_tri9
            have hz6:=HB6.out.size
            go_wp2_with (at_builtin;refine wpList_append_blk rfl (.tmp 59) (.tmp 61) 39 rfl (w.heap.size+1) 67 iS _ 9 120 Tryz.underlying39 hi0 hzS hszS hbyS rfl (by decide) _ _ _ rfl (HR6.out.alloc _) (some ⟨w6.heap.size,0,none⟩) 1 1 (ofT ((n1,t1,x1),(n2,t2,x2),n3,t3,x3)).cells rfl (fun h=>by cases h) rfl (news9 w6 ((n1,t1,x1),(n2,t2,x2),n3,t3,x3)) (tri_one ((n1,t1,x1),(n2,t2,x2),n3,t3,x3)) (by unfold maxLen;omega) (by omega) (by simp;omega) ?_)
            intro v8 w8 g1 g2 g3
            have hob:∀ k,(Value.slice a6 m cap6).ownBlock=some k→w.heap.size+1≤k:=fun k hk=>(HR6.out.lt k hk).1
            have HB8:=hid ((HB6.out.alloc hz6 _).grown g2 (by simp;omega) (fun k hk=>by have:=hob k hk;omega))
            have HM8:=hid ((HM6.out.alloc _).kept g2 (fun e=>by have:=hob _ e.symm;omega))
            have HR8:=hid (show w8.ownsRow (w.heap.size+1) 67 9 v8 (l++[((n1,t1,x1),(n2,t2,x2),n3,t3,x3)]).length (rowCells (l++[((n1,t1,x1),(n2,t2,x2),n3,t3,x3)])) by rw [rowCells_snoc,List.length_append,←HMM.out];exact g1)
            clear g1 g2 g3 hob
            go_wp2
            go_roundg cr.length
            case measure=>omega
            case rel=>exact ⟨cr,n+1,_,rfl,by go_num,Nat.le_refl _,by omega,by omega,by rw [List.length_append,←HMM.out];simp only [List.length_cons,List.length_nil];omega,by
             show ∀ s∈_,_
             intro s hs
             rcases List.mem_append.1 hs with hs | hs
             · exact HOK.out s hs
             · rw [List.mem_singleton.1 hs];exact HT1.out,HB8.out,HM8.out,HR8.out,HF.out⟩
        · have HF:=hid (show Tm.plU cr (n+1) l=R by
           have h:=HST.out
           rw [if_pos (of_decide_eq_true HIN.out.symm)] at h
           exact h)
          go_wp2_with fail
          refine CU1.out.mono ?_
          rintro e w2 ⟨rfl,nq,hw2⟩
          have HB2:=hid (show Below w.heap.size w w2 by rw [hw2];exact below_drawn HB.out _)
          have HM2:=hid (show w2.ownsMap Tryz.prog 67 Go.unitElem w.heap.size n (seenD l) by rw [hw2];exact HM.out)
          have HR2:=hid (show w2.ownsRow (w.heap.size+1) 67 9 u6 l.length (rowCells l) by rw [hw2];exact HR.out)
          clear hw2
          go_wp2_with fail
          refine (PO2.out _ (HV.out.keep HB2.out) (HE.out.keep HB2.out)).mono ?_
          rintro e w3 ⟨rfl,hlow⟩
          have HB3:=hid (below_then HB2.out hlow)
          have HM3:=hid (map_below HM2.out hlow)
          have HR3:=hid (row_below HR2.out hlow)
          clear hlow
          have HB4:=hid (show Below w.heap.size w (new9 w3 n1 t1 x1 n2 t2 x2 n3 t3 x3) from HB3.out.alloc HB3.out.size _)
          have HM4:=hid (show (new9 w3 n1 t1 x1 n2 t2 x2 n3 t3 x3).ownsMap Tryz.prog 67 Go.unitElem w.heap.size n (seenD l) from HM3.out.alloc _)
          have HR4:=hid (show (new9 w3 n1 t1 x1 n2 t2 x2 n3 t3 x3).ownsRow (w.heap.size+1) 67 9 u6 l.length (rowCells l) from HR3.out.alloc _)
          have HU4:=hid (new9_new w3 n1 t1 x1 n2 t2 x2 n3 t3 x3)
          go_upto_region 15 with fail
          show Code.wp _ _ _ _ (new9 w3 n1 t1 x1 n2 t2 x2 n3 t3 x3)
          obtain ⟨w4,hw4⟩:∃ w4,w4=new9 w3 n1 t1 x1 n2 t2 x2 n3 t3 x3:=⟨_,rfl⟩
          rw [←hw4] at HB4 HM4 HR4 HU4 ⊢
          clear hw4
          have c0:=HU4.out.cell (i:=0) rfl
          have c1:=HU4.out.cell (i:=1) rfl
          have c2:=HU4.out.cell (i:=2) rfl
          have c3:=HU4.out.cell (i:=3) rfl
          have c4:=HU4.out.cell (i:=4) rfl
          have c5:=HU4.out.cell (i:=5) rfl
          have c6:=HU4.out.cell (i:=6) rfl
          have c7:=HU4.out.cell (i:=7) rfl
          have c8:=HU4.out.cell (i:=8) rfl
          go_upto_region 16 with (at_lookup;refine wpList_lookup_own_unit _ rfl _ _ 137 rfl 67 142 tri_keyed Tryz.underlying137 (zero_unit _) w.heap.size n (seenD l) rfl HM4.out _ _ rfl HK.out ?_;rw [←HBB.out])
          clear c0 c1 c2 c3 c4 c5 c6 c7 c8
          have HB5:=hid (HB4.out.alloc HB4.out.size (.cells #[] 142))
          have HM5:=hid (HM4.out.alloc (.cells #[] 142))
          have HR5:=hid (HR4.out.alloc (.cells #[] 142))
          have HU5:=hid (HU4.out.alloc (.cells #[] 142))
          generalize w4.alloc (.cells #[] 142)=w5 at HB5 HM5 HR5 HU5 ⊢
          go_wp2
          go_roundg cr.length
          case measure=>omega
          case rel=>exact ⟨cr,n+1,l,rfl,by go_num,Nat.le_refl _,by omega,by omega,by omega,HOK.out,HB5.out,map_more HM5.out,HR5.out,HF.out⟩
end Go.Proofs.YtjaebndajhppgaaGreatDoor
namespace Go.Proofs.YtjaebndajhppgaaGreatDoor
open Go.ChangeShapes Go.WideShapes Go.ChangeAt Go.RowKit
theorem bstr_any (B b:Nat) (l:List UInt8) (w:World) (h:Lib.IsBuilder 174 5 B b (Lib.byteCells l) w) (hB:B≤w.heap.size) :
  Calls Tryz.prog 111 #[.pointer (some ⟨b,0,none⟩)] w fun e w'=>e=.returned (str l)∧Below B w w':=by
 by_cases h0:l=[]
 · subst h0
   exact Any.Builder_String_empty Tryz.lays169 Tryz.Builder_Extra_169 B b w h hB
 · exact Tryz.Builder_String B b l w h h0
theorem pprintL_any (L:List TR) (hl:∀ t∈L,Tm.isTri t=true) (hn:L.length≤1000000) (w:World) (v:Value) (hv:TrisAt w v (L.map ofT)) :
  Calls Tryz.prog 67 #[v] w fun e w'=>e=.returned (str (Tm.printL L))∧Below w.heap.size w w':=by
 obtain ⟨a,cap,rfl,hc1,hc2,hc3⟩:=hv.open
 have HV:=hid hv
 have HL:=hid hl
 rw [List.length_map] at HV ⊢
 obtain ⟨n,hn0⟩:∃ n,n=L.length:=⟨_,rfl⟩
 rw [←hn0] at HV hn ⊢
 have HN:=hid hn0
 have HB1:=hid (show Below w.heap.size w (w.alloc (.cells #[.pointer none,.slice none 0 0] 174)) from (Below.refl _ _).alloc (Nat.le_refl _) _)
 have HI1:=hid (Lib.fresh_isBuilder 174 5 w)
 clear hv hl hc1 hc2 hc3 hn0
 go_enter Tryz.func67,Tryz.ntmps67
 go_wp2
 go_loopg [5,8] n (fun gk s5 s8 wr=>∃ (i:Nat) (s:List UInt8),s8=.int .i64 i∧i≤n∧n-i≤gk∧Hid (Below w.heap.size w wr)∧Hid (s=Tm.printL (L.take i))∧s.length≤801*i∧Hid (Lib.IsBuilder 174 5 w.heap.size w.heap.size (Lib.byteCells s) wr))
 case atStart=>exact ⟨0,[],rfl,Nat.zero_le _,Nat.le_refl _,HB1,hid rfl,by simp,HI1⟩
 case round=>
  obtain ⟨i,s,rfl,hin,hg,HB,HS,hsl,HI⟩:=hrel
  have hzr:=HB.out.size
  by_cases hlt:i<n
  · have hltz:(i:Int)<(n:Int):=by omega
    have hiL:i<L.length:=by rw [←HN.out];exact hlt
    have HT1:=hid (HL.out L[i] (List.getElem_mem hiL))
    have HVr:=hid (HV.out.keep HB.out)
    obtain ⟨bl,off,rfl,hrow⟩:=HVr.out.get (i:=i) (by rw [List.length_map];exact hiL)
    have HRW:=hid (hrow i (by rw [List.length_map];exact hiL))
    rw [List.getElem_map] at HRW
    have HTK:=hid (show Tm.printL (L.take (i+1))=Tm.printL (L.take i)++(Tm.lineS L[i]++[10]) by
     rw [List.take_add_one,List.getElem?_eq_getElem hiL];exact Tm.printL_snoc _ _)
    obtain ⟨t,ht⟩:∃ t,t=L[i]:=⟨_,rfl⟩
    rw [←ht] at HT1 HRW HTK
    obtain ⟨p1,p2,q1,q2,q3⟩:=Tm.isTri_parts HT1.out
    have b1:=(Tm.show_len q1).1
    have b2:=(Tm.show_len q2).1
    have b3:=(Tm.show_len q3).1
    have LP:=hid (line_parts t)
    have SH:=hid (fun W=>shows_tri t HT1.out W)
    obtain ⟨⟨n1,t1,x1⟩,⟨n2,t2,x2⟩,n3,t3,x3⟩:=t
    unfold txtT at SH
    simp only at LP b1 b2 b3 SH
    obtain ⟨y1,hy1⟩:∃ y,y=Tm.showT n1 t1 x1:=⟨_,rfl⟩
    obtain ⟨y2,hy2⟩:∃ y,y=Tm.showT n2 t2 x2:=⟨_,rfl⟩
    obtain ⟨y3,hy3⟩:∃ y,y=Tm.showT n3 t3 x3:=⟨_,rfl⟩
    rw [←hy1] at SH LP b1
    rw [←hy2] at SH LP b2
    rw [←hy3] at SH LP b3
    clear ht hrow q1 q2 q3 p1 p2 hy1 hy2 hy3
    have c0:=HRW.out 0 (by omega)
    have c1:=HRW.out 1 (by omega)
    have c2:=HRW.out 2 (by omega)
    have c3:=HRW.out 3 (by omega)
    have c4:=HRW.out 4 (by omega)
    have c5:=HRW.out 5 (by omega)
    have c6:=HRW.out 6 (by omega)
    have c7:=HRW.out 7 (by omega)
    have c8:=HRW.out 8 (by omega)
    simp only [ofT,Tri.cells,List.getElem?_cons_zero,List.getElem?_cons_succ,Nat.add_zero] at c0 c1 c2 c3 c4 c5 c6 c7 c8
    have HB3:=hid (show Below w.heap.size w (new9 wr n1 t1 x1 n2 t2 x2 n3 t3 x3) from HB.out.alloc hzr _)
    have HI3:=hid (isb_keep (w':=new9 wr n1 t1 x1 n2 t2 x2 n3 t3 x3) HI.out ((Below.refl _ _).alloc (Nat.le_refl _) _))
    have HU3:=hid (new9_new wr n1 t1 x1 n2 t2 x2 n3 t3 x3)
    go_upto_region 5 with fail
    show Code.wp _ _ _ _ (new9 wr n1 t1 x1 n2 t2 x2 n3 t3 x3)
    obtain ⟨w3,hw3⟩:∃ w3,w3=new9 wr n1 t1 x1 n2 t2 x2 n3 t3 x3:=⟨_,rfl⟩
    rw [←hw3] at HB3 HI3 HU3 ⊢
    clear hw3 c0 c1 c2 c3 c4 c5 c6 c7 c8
    have c0:=HU3.out.cell (i:=0) rfl
    have c1:=HU3.out.cell (i:=1) rfl
    have c2:=HU3.out.cell (i:=2) rfl
    have c3:=HU3.out.cell (i:=3) rfl
    have c4:=HU3.out.cell (i:=4) rfl
    have c5:=HU3.out.cell (i:=5) rfl
    have c6:=HU3.out.cell (i:=6) rfl
    have c7:=HU3.out.cell (i:=7) rfl
    have c8:=HU3.out.cell (i:=8) rfl
    go_wp2_with fail
    refine (SH.out _).mono ?_
    rintro e w4 ⟨b4,rfl,hb4,hblk,hlow⟩
    have HB4:=hid (below_then HB3.out hlow)
    have HI4:=hid (isb_keep HI3.out hlow)
    have JN:=hid (join3_any b4 y1 y2 y3 w4 hblk (by omega) (by omega) (by omega))
    clear hlow hblk
    go_wp2_with fail
    refine JN.out.mono ?_
    rintro e w5 ⟨rfl,hlow⟩
    have HB5:=hid (below_then HB4.out hlow)
    have HI5:=hid (isb_keep HI4.out hlow)
    have WS1:=hid (bws_any w.heap.size w.heap.size (Lib.byteCells s) (y1++32::(y2++32::y3)) w5 HI5.out (by simp only [Lib.byteCells,List.length_map,List.length_append,List.length_cons];omega) HB5.out.size)
    clear hlow JN
    go_wp2_with fail
    refine WS1.out.mono ?_
    rintro e w6 ⟨⟨n6,rfl⟩,hi6,hlow⟩
    have HB6:=hid (HB5.out.trans hlow)
    have HI6:=hid hi6
    have WS2:=hid (bws_any w.heap.size w.heap.size _ [32,46,10] w6 (.inr HI6.out) (by simp only [Lib.byteCells,List.length_map,List.length_append,List.length_cons,List.length_nil];omega) HB6.out.size)
    clear hlow WS1 hi6
    go_wp2_with fail
    refine WS2.out.mono ?_
    rintro e w7 ⟨⟨n7,rfl⟩,hi7,hlow⟩
    have HB7:=hid (HB6.out.trans hlow)
    rw [byteCells_app,byteCells_app] at hi7
    have HI7:=hid (show Lib.IsBuilder 174 5 w.heap.size w.heap.size (Lib.byteCells (s++(y1++32::(y2++32::y3))++[32,46,10])) w7 from .inr hi7)
    have HSN:=hid (show s++(y1++32::(y2++32::y3))++[32,46,10]=Tm.printL (L.take (i+1)) by rw [HTK.out,LP.out,←HS.out];simp)
    clear hlow WS2 hi7
    go_wp2
    go_roundg (n-(i+1))
    case measure=>omega
    case rel=>exact ⟨i+1,_,by go_num,by omega,by omega,HB7.out,HSN.out,by simp only [List.length_append,List.length_cons,List.length_nil];omega,HI7.out⟩
  · obtain rfl:i=n:=by omega
    have hltz:¬ (i:Int)<(i:Int):=by omega
    have HE:=hid (show s=Tm.printL L by rw [HS.out,HN.out,List.take_length])
    have BS:=hid (bstr_any w.heap.size w.heap.size s wr HI.out hzr)
    go_wp2_with fail
    refine BS.out.mono ?_
    rintro e w8 ⟨rfl,hlow⟩
    have HB8:=hid (HB.out.trans hlow)
    go_wp2
    go_ret
    exact ⟨by rw [←HE.out];rfl,HB8.out⟩
end Go.Proofs.YtjaebndajhppgaaGreatDoor
namespace Go.Proofs.YtjaebndajhppgaaGreatDoor
open Go.ChangeShapes Go.WideShapes Go.ChangeAt Go.RowKit Go.Sort
def LoadPost (w:World) (r:Nat×Nat×List TR) (e:Ending) (w':World):Prop:=
 (if r.1=0 then ∃ p,e=.returned (.tuple #[.pointer (some ⟨p,0,none⟩),.int .i64 (r.2.1:Nat),.int .i64 0])∧IsStore w' p (Tm.rsort r.2.2)
  else e=.returned (.tuple #[.pointer none,.int .i64 (r.2.1:Nat),.int .i64 (r.1:Nat)]))∧Below w.heap.size w w'
theorem load_any (s:List UInt8) (w:World) (hV:Vars w) (hE:ErrAt w) (hl:s.length≤20000) (R:Nat×Nat×List TR) (hans:Tm.plU s 0 []=R)
  (ht:R.1=0→(∀ t∈R.2.2,Tm.isTri t=true)∧R.2.2.length≤100):Calls Tryz.prog 13 #[str s] w (LoadPost w R):=by
 have PA:=hid (pparse_any s w hV hE hl R hans)
 have BU:=hid (fun hz W v hv=>build_any (Tm.rsort R.2.2) (Tm.rsort_tri (ht hz).1) (Tm.rsort_srt (ht hz).1) (Nat.le_trans (Tm.rsort_len _) (ht hz).2) W v hv)
 obtain ⟨E,N,l⟩:=R
 simp only at ht BU
 clear hV hE hl hans ht
 by_cases hz:E=0
 · subst hz
   replace BU:=hid (BU.out rfl)
   go_enter Tryz.func13,Tryz.ntmps13
   go_wp2_with (first
    | (go_at_call 42;refine PA.out.mono ?_;rintro e w1 ⟨v,rfl,hT0,hB⟩;have hT:=(show TrisAt w1 v ((Tm.rsort l).map ofT) from hT0);clear hT0;obtain ⟨va,vc,rfl,_,_,_⟩:=hT.open;rw [List.length_map] at hT ⊢;have HT:=hid hT;have HB:=hid hB;clear hT hB)
    | (go_at_call 43;refine (BU.out _ _ HT.out).mono ?_;rintro e w2 ⟨p,rfl,hS,hB2⟩;have HS:=hid hS;have HB2:=hid hB2;clear hS hB2))
   go_ret3
   exact ⟨⟨p,rfl,HS.out⟩,below_then HB.out HB2.out⟩
 · have hz2:((E:Int)==0)=false:=beq_eq_false_iff_ne.2 (by omega)
   have HZ:=hid hz
   clear hz
   go_enter Tryz.func13,Tryz.ntmps13
   go_wp2_with (go_at_call 42;refine PA.out.mono ?_;rintro e w1 ⟨v,rfl,hT,hB⟩;obtain ⟨va,vc,rfl,_,_,_⟩:=hT.open;have HB:=hid hB;clear hT hB)
   go_ret3
   exact ⟨by rw [if_neg HZ.out];rfl,HB.out⟩
theorem slen_any (p:Nat) (L:List TR) (w:World) (h:IsStore w p L):Calls Tryz.prog 34 #[.pointer (some ⟨p,0,none⟩)] w fun e w'=>e=.returned (.int .i64 L.length)∧w'=w:=by
 obtain ⟨vt,ve,r,h1,h2,h3,h4⟩:=h
 obtain ⟨a,c,rfl,_,_,_⟩:=h2.open
 rw [List.length_map] at h1
 have c0:=h1.cell (i:=0) rfl
 clear h1 h2 h3 h4
 go_enter Tryz.func34,Tryz.ntmps34
 go_wp2
 go_ret
 exact ⟨rfl,rfl⟩
theorem sring_any (p:Nat) (L:List TR) (w:World) (h:IsStore w p L):Calls Tryz.prog 36 #[.pointer (some ⟨p,0,none⟩)] w fun e w'=>(∃ r,e=.returned (.pointer (some ⟨r,0,none⟩))∧IsRing w r (So.ids L))∧w'=w:=by
 obtain ⟨vt,ve,r,h1,h2,h3,h4⟩:=h
 have c2:=h1.cell (i:=2) rfl
 have H4:=hid h4
 clear h1 h2 h3 h4
 go_enter Tryz.func36,Tryz.ntmps36
 go_wp2
 go_ret
 exact ⟨⟨r,rfl,H4.out⟩,rfl⟩
theorem sexp_any (p:Nat) (L:List TR) (w:World) (h:IsStore w p L) (hl:∀ t∈L,Tm.isTri t=true) (hn:L.length≤1000000):Calls Tryz.prog 24 #[.pointer (some ⟨p,0,none⟩)] w fun e w'=>e=.returned (str (Tm.printL L))∧Below w.heap.size w w':=by
 obtain ⟨vt,ve,r,h1,h2,h3,h4⟩:=h
 have PP:=hid (pprintL_any L hl hn w vt h2)
 obtain ⟨a,c,rfl,_,_,_⟩:=h2.open
 rw [List.length_map] at h1 PP
 have c0:=h1.cell (i:=0) rfl
 clear h1 h2 h3 h4
 go_enter Tryz.func24,Tryz.ntmps24
 go_wp2_with (go_at_call 67;refine PP.out.mono ?_;rintro e w1 ⟨rfl,hB⟩;have HB:=hid hB;clear hB)
 go_ret
 exact ⟨rfl,HB.out⟩
theorem term_ret2 {fn:Func} {tmps:Array Value} {Z:World} {b:Nat} {v0 v1 v2 v:Value} (ht:tmps.getD 4 undef=.pointer (some ⟨b,0,none⟩)) (h5:tmps.getD 5 undef=v) (hZ:Blk Z b [v0,v1,v2] 61) (hf:fn.results=#[.cell 4 61,.tmp 5]) :
  (results fn tmps).run Tryz.prog Z=.ok (.tuple #[.agg #[v0,v1,v2],v]) Z:=by
 have h0:=hZ.cell (i:=0) rfl
 have h1:=hZ.cell (i:=1) rfl
 have h2:=hZ.cell (i:=2) rfl
 have ht':tmps[4]?.getD undef=.pointer (some ⟨b,0,none⟩):=by simpa using ht
 have h5':tmps[5]?.getD undef=v:=by simpa using h5
 simp [results,hf,ht',h5',go_sem,h0,h1,h2]
end Go.Proofs.YtjaebndajhppgaaGreatDoor
namespace Go.Proofs.YtjaebndajhppgaaGreatDoor
open Go.ChangeShapes Go.WideShapes Go.ChangeAt Go.RowKit Go.Sort
theorem terms_own {W:World} {base g cap:Nat} {E:List T3} (h:W.ownsRow base 61 3 (.slice (some ⟨g,0,none⟩) E.length cap) E.length (rowT E)) (hc:E.length≤cap) (hm:cap≤maxLen):TermsAt W (.slice (some ⟨g,0,none⟩) E.length cap) E:=by
 refine ⟨some ⟨g,0,none⟩,cap,rfl,hc,hm,(fun h=>by cases h),Or.inr ⟨g,0,rfl,fun i hi c hc=>?_⟩⟩
 rw [Nat.zero_add,h.cellAt _ (by omega),rowT_get E i c hi hc]
theorem rowT_src {w:World} {b off:Nat} {E:List T3} (h:∀ i (h:i<E.length) c,c<3→w.cell? ⟨b,off+i*3+c,none⟩=(tm3 E[i])[c]?):∀ j u,(rowT E)[j]?=some u→w.cell? ⟨b,off+j,none⟩=some u:=by
 intro j u hu
 have hj:j<E.length*3:=by rw [←rowT_len];exact (List.getElem?_eq_some_iff.1 hu).1
 have hi:j / 3<E.length:=by omega
 have h1:=h (j / 3) hi (j % 3) (Nat.mod_lt _ (by decide))
 have h2:=rowT_get E (j / 3) (j % 3) hi (Nat.mod_lt _ (by decide))
 rw [show j / 3*3+j % 3=j by omega] at h2
 rw [show off+j / 3*3+j % 3=off+j by omega,←h2,hu] at h1
 exact h1
theorem clone_terms (v0:Value) (E:List T3) (w:World) (h:TermsAt w v0 E) (hl:E.length≤1000000) :
  Calls Tryz.prog 72 #[v0] w fun e w'=>∃ v',e=.returned v'∧TermsAt w' v' E∧(0<E.length→w'.ownsRow w.heap.size 61 3 v' E.length (rowT E))∧Below w.heap.size w w':=by
 obtain ⟨i0,hi,hz0,hz1,hz2⟩:=info_term
 have hx:=h
 obtain ⟨a,cap,rfl,h2,h3,h4,h5⟩:=hx
 cases a with
 | none=>
  have hcap:=h4 rfl
  have h0:E=[]:=List.eq_nil_of_length_eq_zero (by omega)
  have:=AnyE.slices_Clone_nil Tryz.cloneTerms E.length cap w
  change Calls Tryz.prog 72 _ _ _ at this
  refine this.mono ?_
  rintro e w' ⟨rfl,rfl⟩
  subst h0
  exact ⟨_,rfl,TermsAt.nil _,fun h=>absurd h (by simp),Below.refl _ _⟩
 | some ad=>
  rcases h5 with h5 | ⟨b,off,e,h5⟩
  · have h0:E=[]:=List.eq_nil_of_length_eq_zero h5
    subst h0
    have he:=fun W=>Go.Lib.run_eql_slice_nil (P:=Tryz.prog) W 62 61 (some ad) 0 cap 0 0 Tryz.underlying62
    simp only [List.length_nil] at *
    clear h h2 h5 hl
    go_enter Tryz.func72,Tryz.ntmps72
    go_wp2_with (at_builtin;refine wpList_append_own _ rfl _ _ 62 rfl w.heap.size 61 i0 _ 3 40 Tryz.underlying62 hi hz0 hz1 hz2 rfl (by decide) _ _ _ rfl (World.ownsRow_made w #[] 0 (Nat.le_refl _) (Nat.zero_le _) (by simp)) ad 0 cap [] rfl ?qc1 ?qc2 ?qc3 ?qc4 ?qc5 ?qc6 ?_)
    case qc1=>rfl
    case qc2=>intro j u hj;simp at hj
    case qc3=>intro u hu;cases hu
    case qc4=>unfold maxLen;omega
    case qc5=>omega
    case qc6=>simp
    intro v' w1 hown hgrow hnil
    have hb:Below w.heap.size w w1:=((Below.refl _ w).alloc (Nat.le_refl _) _).grown hgrow (by simp) (by intro k hk;simp [Value.ownBlock] at hk;omega)
    obtain ⟨a,cp,rfl,k1,k2⟩:∃ a cp,v'=.slice a 0 cp∧0≤cp∧(cp≤maxLen∧(a=none→cp=0)):=by
     rcases hown.2 with ⟨rfl,_⟩ | ⟨g,cp,cur,rfl,hg,hh,hcp,hcm,_⟩
     · exact ⟨none,0,rfl,Nat.le_refl _,by unfold maxLen;omega,fun _=>rfl⟩
     · exact ⟨_,cp,rfl,hcp,hcm,fun h=>by cases h⟩
    have HH:=hid (And.intro k1 k2)
    clear hown hgrow hnil k1 k2
    have HB:=hid hb
    clear hb
    go_wp2
    go_ret
    exact ⟨_,rfl,⟨a,cp,rfl,HH.out.1,HH.out.2.1,HH.out.2.2,Or.inl rfl⟩,fun h=>absurd h (by simp),HB.out⟩
  · cases e
    have hc:=rowT_src h5
    have:=AnyE.slices_Clone Tryz.cloneTerms i0 _ 3 40 hi hz0 hz1 hz2 rfl (by decide) Tryz.sizeOf61 b off E.length cap (rowT E) w (rowT_len E) (by unfold maxLen;omega) (by omega) hc (rowT_one E)
    change Calls Tryz.prog 72 _ _ _ at this
    refine this.mono ?_
    rintro e w' ⟨v',rfl,hO,hne,hb⟩
    have hOO:=hO
    rcases hO.2 with ⟨rfl,_⟩ | ⟨g,cp,cur,rfl,hg,hh,hcp,hcm,_⟩
    · exact absurd rfl hne
    · exact ⟨_,rfl,terms_own hOO hcp hcm,fun _=>hOO,hb⟩
theorem rowC_len:∀ (l:List TR),(rowCells l).length=l.length*9
 | []=>rfl
 | a::E=>by
  have:=rowC_len E
  show ((ofT a).cells++rowCells E).length=_
  rw [List.length_append,this,List.length_cons];show 9+_=_;omega
theorem rowC_one (l:List TR):∀ u∈rowCells l,u.oneCell'=true:=by
 intro u hu
 obtain ⟨a,_,h⟩:=List.mem_flatMap.1 hu
 exact tri_one a u h
theorem rowCells_src {w:World} {b off:Nat} {l:List TR} (h:∀ i (h:i<(l.map ofT).length),Row9 w b (off+i*9) (l.map ofT)[i]):∀ j u,(rowCells l)[j]?=some u→w.cell? ⟨b,off+j,none⟩=some u:=by
 intro j u hu
 have hj:j<l.length*9:=by rw [←rowC_len];exact (List.getElem?_eq_some_iff.1 hu).1
 have hi:j / 9<l.length:=by omega
 have h1:=h (j / 9) (by rw [List.length_map];exact hi) (j % 9) (Nat.mod_lt _ (by decide))
 have h2:=rowCells_get l (j / 9) (j % 9) hi (Nat.mod_lt _ (by decide))
 rw [show j / 9*9+j % 9=j by omega] at h2
 rw [List.getElem_map,show off+j / 9*9+j % 9=off+j by omega,←h2,hu] at h1
 exact h1
theorem clone_tris (v0:Value) (L:List TR) (w:World) (h:TrisAt w v0 (L.map ofT)) (hl:L.length≤1000000) :
  Calls Tryz.prog 76 #[v0] w fun e w'=>∃ v',e=.returned v'∧TrisAt w' v' (L.map ofT)∧(0<L.length→w'.ownsRow w.heap.size 67 9 v' L.length (rowCells L))∧Below w.heap.size w w':=by
 obtain ⟨i0,hi,hz0,hz1,hz2⟩:=info_tri9
 have hx:=h
 obtain ⟨a,cap,rfl,h2,h3,h4,h5⟩:=hx
 rw [List.length_map] at *
 cases a with
 | none=>
  have hcap:=h4 rfl
  have h0:L=[]:=List.eq_nil_of_length_eq_zero (by omega)
  have:=AnyE.slices_Clone_nil Tryz.cloneTris L.length cap w
  change Calls Tryz.prog 76 _ _ _ at this
  refine this.mono ?_
  rintro e w' ⟨rfl,rfl⟩
  subst h0
  exact ⟨_,rfl,TrisAt.nil _,fun h=>absurd h (by simp),Below.refl _ _⟩
 | some ad=>
  rcases h5 with h5 | ⟨b,off,e,h5⟩
  · have h0:L=[]:=List.eq_nil_of_length_eq_zero (by simpa using h5)
    subst h0
    have he:=fun W=>Go.Lib.run_eql_slice_nil (P:=Tryz.prog) W 39 67 (some ad) 0 cap 0 0 Tryz.underlying39
    simp only [List.length_nil] at *
    clear h h2 h5 hl
    go_enter Tryz.func76,Tryz.ntmps76
    go_wp2_with (at_builtin;refine wpList_append_own _ rfl _ _ 39 rfl w.heap.size 67 i0 _ 9 120 Tryz.underlying39 hi hz0 hz1 hz2 rfl (by decide) _ _ _ rfl (World.ownsRow_made w #[] 0 (Nat.le_refl _) (Nat.zero_le _) (by simp)) ad 0 cap [] rfl ?qc1 ?qc2 ?qc3 ?qc4 ?qc5 ?qc6 ?_)
    case qc1=>rfl
    case qc2=>intro j u hj;simp at hj
    case qc3=>intro u hu;cases hu
    case qc4=>unfold maxLen;omega
    case qc5=>omega
    case qc6=>simp
    intro v' w1 hown hgrow hnil
    have hb:Below w.heap.size w w1:=((Below.refl _ w).alloc (Nat.le_refl _) _).grown hgrow (by simp) (by intro k hk;simp [Value.ownBlock] at hk;omega)
    obtain ⟨a,cp,rfl,k1,k2⟩:∃ a cp,v'=.slice a 0 cp∧0≤cp∧(cp≤maxLen∧(a=none→cp=0)):=by
     rcases hown.2 with ⟨rfl,_⟩ | ⟨g,cp,cur,rfl,hg,hh,hcp,hcm,_⟩
     · exact ⟨none,0,rfl,Nat.le_refl _,by unfold maxLen;omega,fun _=>rfl⟩
     · exact ⟨_,cp,rfl,hcp,hcm,fun h=>by cases h⟩
    have HH:=hid (And.intro k1 k2)
    clear hown hgrow hnil k1 k2
    have HB:=hid hb
    clear hb
    go_wp2
    go_ret
    exact ⟨_,rfl,⟨a,cp,rfl,HH.out.1,HH.out.2.1,HH.out.2.2,Or.inl rfl⟩,fun h=>absurd h (by simp),HB.out⟩
  · cases e
    have hc:=rowCells_src h5
    have:=AnyE.slices_Clone Tryz.cloneTris i0 _ 9 120 hi hz0 hz1 hz2 rfl (by decide) Tryz.sizeOf67 b off L.length cap (rowCells L) w (rowC_len L) (by unfold maxLen;omega) (by omega) hc (rowC_one L)
    change Calls Tryz.prog 76 _ _ _ at this
    refine this.mono ?_
    rintro e w' ⟨v',rfl,hO,hne,hb⟩
    exact ⟨_,rfl,tris_own hO,fun _=>hO,hb⟩
end Go.Proofs.YtjaebndajhppgaaGreatDoor
