/-GSo3-/
import Derived.Test.YtjaebndajhppgaaGreatDoorMlHd1
import Derived.Test.YtjaebndajhppgaaGreatDoorMlGPar
import Derived.Test.YtjaebndajhppgaaGreatDoorMlSoBuild
import Derived.Test.YtjaebndajhppgaaGreatDoorMlGTri
set_option linter.unusedVariables false
set_option linter.unusedSimpArgs false
set_option maxRecDepth 100000
set_option maxHeartbeats 8000000
namespace Go.Proofs.YtjaebndajhppgaaGreatDoor
open Go.Proofs.Tryz
open Go.ChangeShapes Go.WideShapes Go.ChangeAt Go.RowKit
theorem aa1 (B b:Nat) (l:List UInt8) (w:World) (h:Lib.IsBuilder 174 5 B b (Lib.byteCells l) w) (hB:B≤w.heap.size) :
  Calls prog 111 #[.pointer (some ⟨b,0,none⟩)] w fun e w'=>e=.returned (str l)∧Below B w w':=by by_cases h0:l=[];{subst h0;exact Any.Builder_String_empty Tryz.lays169 Tryz.Builder_Extra_169 B b w h hB};{exact Tryz.Builder_String B b l w h h0}
theorem aa2 (L:List TR) (hl:∀ t∈L,Tm.bG t=true) (hn:L.length≤1000000) (w:World) (v:Value) (hv:bX w v (L.map bA)) :
  Calls prog 67 #[v] w fun e w'=>e=.returned (str (Tm.jo L))∧Below w.heap.size w w':=by
 obtain ⟨a,cap,rfl,hc1,hc2,hc3⟩:=hv.open;have HV:=hid hv;have HL:=hid hl;rw [List.length_map] at HV ⊢;obtain ⟨n,hn0⟩:=aA L.length;rw [←hn0] at HV hn ⊢;have HN:=hid hn0;have HB1:=hid (show Below w.heap.size w (w.alloc (.cells #[.pointer none,.slice none 0 0] 174)) from (Below.refl _ _).alloc ay _);have HI1:=hid (Lib.fresh_isBuilder 174 5 w);clear hv hl hc1 hc2 hc3 hn0;go_enter func67,ntmps67;go_wp2;go_loopg [5,8] n (fun gk s5 s8 wr=>∃ (i:Nat) (s:List UInt8),s8=.int .i64 i∧i≤n∧n-i≤gk∧Hid (Below w.heap.size w wr)∧Hid (s=Tm.jo (L.take i))∧s.length≤801*i∧Hid (Lib.IsBuilder 174 5 w.heap.size w.heap.size (Lib.byteCells s) wr))
 case atStart=>exact ⟨0,[],rfl,Nat.zero_le _,Nat.le_refl _,HB1,hid rfl,aC,HI1⟩
 case round=>
  obtain ⟨i,s,rfl,hin,hg,HB,HS,hsl,HI⟩:=hrel;have iE:=HB.out.size;by_cases hlt:i<n
  · have hltz:(i:Int)<(n:Int):=aj;have cZ:i<L.length:=(by rw [←HN.out];exact hlt);have HT1:=hid (HL.out L[i] (List.getElem_mem cZ));have jJ:=hid (HV.out.keep HB.out);obtain ⟨bl,off,rfl,hrow⟩:=jJ.out.get (i:=i) (by rw [List.length_map];exact cZ);have HRW:=hid (hrow i (by rw [List.length_map];exact cZ));rw [List.getElem_map] at HRW;have kN:=hid (show Tm.jo (L.take (i+1))=Tm.jo (L.take i)++(Tm.um L[i]++[10]) by rw [List.take_add_one,List.getElem?_eq_getElem cZ];exact Tm.JY _ _);obtain ⟨t,ht⟩:=aA (L[i]);rw [←ht] at HT1 HRW kN;obtain ⟨p1,p2,q1,q2,q3⟩:=Tm.pz HT1.out;have b1:=(Tm.gY q1).1;have b2:=(Tm.gY q2).1;have b3:=(Tm.gY q3).1;have LP:=hid (NY t);have SH:=hid (fun W=>MW t HT1.out W);obtain ⟨⟨n1,t1,x1⟩,⟨n2,t2,x2⟩,n3,t3,x3⟩:=t;unfold oH at SH;simp only at LP b1 b2 b3 SH;obtain ⟨y1,hy1⟩:=aA (Tm.aX n1 t1 x1);obtain ⟨y2,hy2⟩:=aA (Tm.aX n2 t2 x2);obtain ⟨y3,hy3⟩:=aA (Tm.aX n3 t3 x3);rw [←hy1] at SH LP b1;rw [←hy2] at SH LP b2;rw [←hy3] at SH LP b3;clear ht hrow q1 q2 q3 p1 p2 hy1 hy2 hy3;have c0:=HRW.out 0 aj;have c1:=HRW.out 1 aj;have c2:=HRW.out 2 aj;have c3:=HRW.out 3 aj;have c4:=HRW.out 4 aj;have c5:=HRW.out 5 aj;have c6:=HRW.out 6 aj;have c7:=HRW.out 7 aj;have c8:=HRW.out 8 aj;simp only [bA,eT.cells,List.getElem?_cons_zero,List.getElem?_cons_succ,Nat.add_zero] at c0 c1 c2 c3 c4 c5 c6 c7 c8;have HB3:=hid (show Below w.heap.size w (aU wr n1 t1 x1 n2 t2 x2 n3 t3 x3) from HB.out.alloc iE _);have HI3:=hid (FT (w':=aU wr n1 t1 x1 n2 t2 x2 n3 t3 x3) HI.out ((Below.refl _ _).alloc ay _));have dx:=hid (fT wr n1 t1 x1 n2 t2 x2 n3 t3 x3);(go_upto_region 5 with fail);show Code.wp _ _ _ _ (aU wr n1 t1 x1 n2 t2 x2 n3 t3 x3);obtain ⟨w3,hw3⟩:=aA (aU wr n1 t1 x1 n2 t2 x2 n3 t3 x3);rw [←hw3] at HB3 HI3 dx ⊢;clear hw3 c0 c1 c2 c3 c4 c5 c6 c7 c8;have c0:=dx.out.cell (i:=0) rfl;have c1:=dx.out.cell (i:=1) rfl;have c2:=dx.out.cell (i:=2) rfl;have c3:=dx.out.cell (i:=3) rfl;have c4:=dx.out.cell (i:=4) rfl;have c5:=dx.out.cell (i:=5) rfl;have c6:=dx.out.cell (i:=6) rfl;have c7:=dx.out.cell (i:=7) rfl;have c8:=dx.out.cell (i:=8) rfl;(go_wp2_with fail);refine (SH.out _).mono ?_;rintro e w4 ⟨b4,rfl,hb4,hblk,hlow⟩;have aP:=hid (aG HB3.out hlow);have HI4:=hid (FT HI3.out hlow);have JN:=hid (aaU b4 y1 y2 y3 w4 hblk aj aj aj);clear hlow hblk;(go_wp2_with fail);refine JN.out.mono ?_;rintro e w5 ⟨rfl,hlow⟩;have aR:=hid (aG aP.out hlow);have HI5:=hid (FT HI4.out hlow);have N7:=hid (NT w.heap.size w.heap.size (Lib.byteCells s) (y1++32::(y2++32::y3)) w5 HI5.out (by simp only [Lib.byteCells,List.length_map,List.length_append,List.length_cons];omega) aR.out.size);clear hlow JN;(go_wp2_with fail);refine N7.out.mono ?_;rintro e w6 ⟨⟨n6,rfl⟩,N8,hlow⟩;have aO:=hid (aR.out.trans hlow);have HI6:=hid N8;have N9:=hid (NT w.heap.size w.heap.size _ [32,46,10] w6 (.inr HI6.out) (by simp only [Lib.byteCells,List.length_map,List.length_append,List.length_cons,List.length_nil];omega) aO.out.size);clear hlow N7 N8;(go_wp2_with fail);refine N9.out.mono ?_;rintro e w7 ⟨⟨n7,rfl⟩,FY,hlow⟩;have bF:=hid (aO.out.trans hlow);rw [NV,NV] at FY;have HI7:=hid (show Lib.IsBuilder 174 5 w.heap.size w.heap.size (Lib.byteCells (s++(y1++32::(y2++32::y3))++[32,46,10])) w7 from .inr FY);have nU:=hid (show s++(y1++32::(y2++32::y3))++[32,46,10]=Tm.jo (L.take (i+1)) by rw [kN.out,LP.out,←HS.out];simp);clear hlow N9 FY;go_wp2;go_roundg (n-(i+1))
    (case measure=>omega);case rel=>exact ⟨i+1,_,aN,aj,aj,bF.out,nU.out,by simp only [List.length_append,List.length_cons,List.length_nil];omega,HI7.out⟩
  {obtain rfl:i=n:=aj;have hltz:¬ (i:Int)<(i:Int):=aj;have HE:=hid (show s=Tm.jo L by rw [HS.out,HN.out,List.take_length]);have BS:=hid (aa1 w.heap.size w.heap.size s wr HI.out iE);(go_wp2_with fail);refine BS.out.mono ?_;rintro e w8 ⟨rfl,hlow⟩;have aI:=hid (HB.out.trans hlow);go_wp2;go_ret;exact ⟨by rw [←HE.out];rfl,aI.out⟩}
open Go.Sort
def N_ (w:World) (r:Nat×Nat×List TR) (e:Ending) (w':World):Prop:=
 (if r.1=0 then ∃ p,e=.returned (.tuple #[.pointer (some ⟨p,0,none⟩),.int .i64 (r.2.1:Nat),.int .i64 0])∧iM w' p (Tm.eD r.2.2)
  else e=.returned (.tuple #[.pointer none,.int .i64 (r.2.1:Nat),.int .i64 (r.1:Nat)]))∧Below w.heap.size w w'
theorem FZ (s:List UInt8) (w:World) (hV:Vars w) (hE:dz w) (hl:s.length≤20000) (R:Nat×Nat×List TR) (nV:Tm.f_ s 0 []=R)
  (ht:R.1=0→(∀ t∈R.2.2,Tm.bG t=true)∧R.2.2.length≤100):Calls prog 13 #[str s] w (N_ w R):=by
 have PA:=hid (aa0 s w hV hE hl R nV);have BU:=hid (fun hz W v hv=>ZM (Tm.eD R.2.2) (Tm.wK (ht hz).1) (Tm.zW (ht hz).1) (Nat.le_trans (Tm.DK _) (ht hz).2) W v hv);obtain ⟨E,N,l⟩:=R;simp only at ht BU;clear hV hE hl nV ht;by_cases hz:E=0
 · subst hz;replace BU:=hid (BU.out rfl);go_enter func13,ntmps13;go_wp2_with (first
    | (go_at_call 42;refine PA.out.mono ?_;rintro e w1 ⟨v,rfl,hT0,hB⟩;have hT:=(show bX w1 v ((Tm.eD l).map bA) from hT0);clear hT0;obtain ⟨va,vc,rfl,_,_,_⟩:=hT.open;rw [List.length_map] at hT ⊢;have HT:=hid hT;have HB:=hid hB;clear hT hB)
    | (go_at_call 43;refine (BU.out _ _ HT.out).mono ?_;rintro e w2 ⟨p,rfl,hS,hB2⟩;have HS:=hid hS;have HB2:=hid hB2;clear hS hB2))
   go_ret3
   exact ⟨⟨p,rfl,HS.out⟩,aG HB.out HB2.out⟩
 · have hz2:((E:Int)==0)=false:=beq_eq_false_iff_ne.2 aj;have HZ:=hid hz;clear hz;go_enter func13,ntmps13;(go_wp2_with (go_at_call 42;refine PA.out.mono ?_;rintro e w1 ⟨v,rfl,hT,hB⟩;obtain ⟨va,vc,rfl,_,_,_⟩:=hT.open;have HB:=hid hB;clear hT hB));go_ret3
   exact ⟨by rw [if_neg HZ.out];rfl,HB.out⟩
theorem F3 (p:Nat) (L:List TR) (w:World) (h:iM w p L):Calls prog 34 #[.pointer (some ⟨p,0,none⟩)] w fun e w'=>e=.returned (.int .i64 L.length)∧w'=w:=by obtain ⟨vt,ve,r,h1,h2,h3,h4⟩:=h;obtain ⟨a,c,rfl,_,_,_⟩:=h2.open;rw [List.length_map] at h1;have c0:=h1.cell (i:=0) rfl;clear h1 h2 h3 h4;go_enter func34,ntmps34;go_wp2;go_ret;exact ⟨rfl,rfl⟩
theorem aa3 (p:Nat) (L:List TR) (w:World) (h:iM w p L):Calls prog 36 #[.pointer (some ⟨p,0,none⟩)] w fun e w'=>(∃ r,e=.returned (.pointer (some ⟨r,0,none⟩))∧kI w r (So.ids L))∧w'=w:=by obtain ⟨vt,ve,r,h1,h2,h3,h4⟩:=h;have c2:=h1.cell (i:=2) rfl;have H4:=hid h4;clear h1 h2 h3 h4;go_enter func36,ntmps36;go_wp2;go_ret;exact ⟨⟨r,rfl,H4.out⟩,rfl⟩
theorem Oa (p:Nat) (L:List TR) (w:World) (h:iM w p L) (hl:∀ t∈L,Tm.bG t=true) (hn:L.length≤1000000):Calls prog 24 #[.pointer (some ⟨p,0,none⟩)] w fun e w'=>e=.returned (str (Tm.jo L))∧Below w.heap.size w w':=by
 obtain ⟨vt,ve,r,h1,h2,h3,h4⟩:=h;have PP:=hid (aa2 L hl hn w vt h2);obtain ⟨a,c,rfl,_,_,_⟩:=h2.open;rw [List.length_map] at h1 PP;have c0:=h1.cell (i:=0) rfl;clear h1 h2 h3 h4;go_enter func24,ntmps24;go_wp2_with (go_at_call 67;refine PP.out.mono ?_;rintro e w1 ⟨rfl,hB⟩;have HB:=hid hB;clear hB)
 go_ret;exact ⟨rfl,HB.out⟩
theorem F4 {fn:Func} {tmps:Array Value} {Z:World} {b:Nat} {v0 v1 v2 v:Value} (ht:tmps.getD 4 undef=.pointer (some ⟨b,0,none⟩)) (h5:tmps.getD 5 undef=v) (hZ:ak Z b [v0,v1,v2] 61) (hf:fn.results=#[.cell 4 61,.tmp 5]) :
  (results fn tmps).run prog Z=.ok (.tuple #[.agg #[v0,v1,v2],v]) Z:=by
 have h0:=hZ.cell (i:=0) rfl;have h1:=hZ.cell (i:=1) rfl;have h2:=hZ.cell (i:=2) rfl;have ht':tmps[4]?.getD undef=.pointer (some ⟨b,0,none⟩):=by simpa using ht
 have h5':tmps[5]?.getD undef=v:=by simpa using h5
 simp [results,hf,ht',h5',go_sem,h0,h1,h2]
theorem Ob {W:World} {base g cap:Nat} {E:List T3} (h:W.ownsRow base 61 3 (.slice (some ⟨g,0,none⟩) E.length cap) E.length (dG E)) (hc:E.length≤cap) (hm:cap≤maxLen):bP W (.slice (some ⟨g,0,none⟩) E.length cap) E:=by refine ⟨some ⟨g,0,none⟩,cap,rfl,hc,hm,(fun h=>by cases h),Or.inr ⟨g,0,rfl,fun i hi c hc=>?_⟩⟩;rw [Nat.zero_add,h.cellAt _ aj,BA E i c hi hc]
theorem Oc {w:World} {b off:Nat} {E:List T3} (h:∀ i (h:i<E.length) c,c<3→w.cell? ⟨b,off+i*3+c,none⟩=(bT E[i])[c]?):∀ j u,(dG E)[j]?=some u→w.cell? ⟨b,off+j,none⟩=some u:=by
 intro j u hu;have hj:j<E.length*3:=by rw [←qU];exact (List.getElem?_eq_some_iff.1 hu).1
 have hi:j / 3<E.length:=aj;have h1:=h (j / 3) hi (j % 3) (Nat.mod_lt _ aH);have h2:=BA E (j / 3) (j % 3) hi (Nat.mod_lt _ aH);rw [show j / 3*3+j % 3=j by omega] at h2;rw [show off+j / 3*3+j % 3=off+j by omega,←h2,hu] at h1;exact h1
theorem aa4 (v0:Value) (E:List T3) (w:World) (h:bP w v0 E) (hl:E.length≤1000000) :
  Calls prog 72 #[v0] w fun e w'=>∃ v',e=.returned v'∧bP w' v' E∧(0<E.length→w'.ownsRow w.heap.size 61 3 v' E.length (dG E))∧Below w.heap.size w w':=by
 obtain ⟨i0,hi,hz0,hz1,hz2⟩:=Bz;have hx:=h;obtain ⟨a,cap,rfl,h2,h3,h4,h5⟩:=hx;cases a with
 | none=>have hcap:=h4 rfl;have h0:E=[]:=List.eq_nil_of_length_eq_zero aj;have:=AnyE.slices_Clone_nil Tryz.cloneTerms E.length cap w;change Calls prog 72 _ _ _ at this;refine this.mono ?_;rintro e w' ⟨rfl,rfl⟩;subst h0;exact ⟨_,rfl,bP.nil _,fun h=>absurd h aC,Below.refl _ _⟩
 | some ad=>rcases h5 with h5 | ⟨b,off,e,h5⟩;{have h0:E=[]:=List.eq_nil_of_length_eq_zero h5;subst h0;have he:=fun W=>Go.Lib.run_eql_slice_nil (P:=prog) W 62 61 (some ad) 0 cap 0 0 underlying62;simp only [List.length_nil] at *;clear h h2 h5 hl;go_enter func72,ntmps72;(go_wp2_with (at_builtin;refine wpList_append_own _ rfl _ _ 62 rfl w.heap.size 61 i0 _ 3 40 underlying62 hi hz0 hz1 hz2 rfl aH _ _ _ rfl (World.ownsRow_made w #[] 0 ay (Nat.zero_le _) aC) ad 0 cap [] rfl ?qc1 ?qc2 ?qc3 ?qc4 ?qc5 ?qc6 ?_));(case qc1=>rfl);(case qc2=>intro j u hj;simp at hj);(case qc3=>intro u hu;cases hu);(case qc4=>unfold maxLen;omega);(case qc5=>omega);(case qc6=>simp);intro v' w1 hown hgrow hnil;have hb:Below w.heap.size w w1:=((Below.refl _ w).alloc ay _).grown hgrow aC (by intro k hk;simp [Value.ownBlock] at hk;omega);obtain ⟨a,cp,rfl,k1,k2⟩:∃ a cp,v'=.slice a 0 cp∧0≤cp∧(cp≤maxLen∧(a=none→cp=0)):=(by rcases hown.2 with ⟨rfl,_⟩ | ⟨g,cp,cur,rfl,hg,hh,hcp,hcm,_⟩;{exact ⟨none,0,rfl,Nat.le_refl _,by unfold maxLen;omega,fun _=>rfl⟩};{exact ⟨_,cp,rfl,hcp,hcm,fun h=>by cases h⟩});have HH:=hid (And.intro k1 k2);clear hown hgrow hnil k1 k2;have HB:=hid hb;clear hb;go_wp2;go_ret;exact ⟨_,rfl,⟨a,cp,rfl,HH.out.1,HH.out.2.1,HH.out.2.2,Or.inl rfl⟩,fun h=>absurd h aC,HB.out⟩};{cases e;have hc:=Oc h5;have:=AnyE.slices_Clone Tryz.cloneTerms i0 _ 3 40 hi hz0 hz1 hz2 rfl aH sizeOf61 b off E.length cap (dG E) w (qU E) (by unfold maxLen;omega) aj hc (oJ E);change Calls prog 72 _ _ _ at this;refine this.mono ?_;rintro e w' ⟨v',rfl,hO,hne,hb⟩;have su:=hO;rcases hO.2 with ⟨rfl,_⟩ | ⟨g,cp,cur,rfl,hg,hh,hcp,hcm,_⟩;{exact absurd rfl hne};{exact ⟨_,rfl,Ob su hcp hcm,fun _=>su,hb⟩}}
theorem F5:∀ (l:List TR),(cu l).length=l.length*9
 | []=>rfl
 | a::E=>by
  have:=F5 E
  show ((bA a).cells++cu E).length=_
  rw [List.length_append,this,List.length_cons];show 9+_=_;omega
theorem aa5 (l:List TR):∀ u∈cu l,u.oneCell'=true:=by intro u hu;obtain ⟨a,_,h⟩:=List.mem_flatMap.1 hu;exact qc a u h
theorem aa6 {w:World} {b off:Nat} {l:List TR} (h:∀ i (h:i<(l.map bA).length),qD w b (off+i*9) (l.map bA)[i]):∀ j u,(cu l)[j]?=some u→w.cell? ⟨b,off+j,none⟩=some u:=by
 intro j u hu;have hj:j<l.length*9:=by rw [←F5];exact (List.getElem?_eq_some_iff.1 hu).1
 have hi:j / 9<l.length:=aj;have h1:=h (j / 9) (by rw [List.length_map];exact hi) (j % 9) (Nat.mod_lt _ aH);have h2:=BM l (j / 9) (j % 9) hi (Nat.mod_lt _ aH);rw [show j / 9*9+j % 9=j by omega] at h2;rw [List.getElem_map,show off+j / 9*9+j % 9=off+j by omega,←h2,hu] at h1;exact h1
theorem aa7 (v0:Value) (L:List TR) (w:World) (h:bX w v0 (L.map bA)) (hl:L.length≤1000000) :
  Calls prog 76 #[v0] w fun e w'=>∃ v',e=.returned v'∧bX w' v' (L.map bA)∧(0<L.length→w'.ownsRow w.heap.size 67 9 v' L.length (cu L))∧Below w.heap.size w w':=by
 obtain ⟨i0,hi,hz0,hz1,hz2⟩:=x9;have hx:=h;obtain ⟨a,cap,rfl,h2,h3,h4,h5⟩:=hx;rw [List.length_map] at *;cases a with
 | none=>have hcap:=h4 rfl;have h0:L=[]:=List.eq_nil_of_length_eq_zero aj;have:=AnyE.slices_Clone_nil Tryz.cloneTris L.length cap w;change Calls prog 76 _ _ _ at this;refine this.mono ?_;rintro e w' ⟨rfl,rfl⟩;subst h0;exact ⟨_,rfl,bX.nil _,fun h=>absurd h aC,Below.refl _ _⟩
 | some ad=>rcases h5 with h5 | ⟨b,off,e,h5⟩;{have h0:L=[]:=List.eq_nil_of_length_eq_zero (by simpa using h5);subst h0;have he:=fun W=>Go.Lib.run_eql_slice_nil (P:=prog) W 39 67 (some ad) 0 cap 0 0 underlying39;simp only [List.length_nil] at *;clear h h2 h5 hl;go_enter func76,ntmps76;(go_wp2_with (at_builtin;refine wpList_append_own _ rfl _ _ 39 rfl w.heap.size 67 i0 _ 9 120 underlying39 hi hz0 hz1 hz2 rfl aH _ _ _ rfl (World.ownsRow_made w #[] 0 ay (Nat.zero_le _) aC) ad 0 cap [] rfl ?qc1 ?qc2 ?qc3 ?qc4 ?qc5 ?qc6 ?_));(case qc1=>rfl);(case qc2=>intro j u hj;simp at hj);(case qc3=>intro u hu;cases hu);(case qc4=>unfold maxLen;omega);(case qc5=>omega);(case qc6=>simp);intro v' w1 hown hgrow hnil;have hb:Below w.heap.size w w1:=((Below.refl _ w).alloc ay _).grown hgrow aC (by intro k hk;simp [Value.ownBlock] at hk;omega);obtain ⟨a,cp,rfl,k1,k2⟩:∃ a cp,v'=.slice a 0 cp∧0≤cp∧(cp≤maxLen∧(a=none→cp=0)):=(by rcases hown.2 with ⟨rfl,_⟩ | ⟨g,cp,cur,rfl,hg,hh,hcp,hcm,_⟩;{exact ⟨none,0,rfl,Nat.le_refl _,by unfold maxLen;omega,fun _=>rfl⟩};{exact ⟨_,cp,rfl,hcp,hcm,fun h=>by cases h⟩});have HH:=hid (And.intro k1 k2);clear hown hgrow hnil k1 k2;have HB:=hid hb;clear hb;go_wp2;go_ret;exact ⟨_,rfl,⟨a,cp,rfl,HH.out.1,HH.out.2.1,HH.out.2.2,Or.inl rfl⟩,fun h=>absurd h aC,HB.out⟩};{cases e;have hc:=aa6 h5;have:=AnyE.slices_Clone Tryz.cloneTris i0 _ 9 120 hi hz0 hz1 hz2 rfl aH sizeOf67 b off L.length cap (cu L) w (F5 L) (by unfold maxLen;omega) aj hc (aa5 L);change Calls prog 76 _ _ _ at this;refine this.mono ?_;rintro e w' ⟨v',rfl,hO,hne,hb⟩;exact ⟨_,rfl,BN hO,fun _=>hO,hb⟩}
def abc:TR:=((1,[97],[]),(1,[98],[]),1,[99],[])
def F6:List UInt8:=[60,97,62,32,60,98,62,32,60,99,62,32,46]
theorem Od:Tm.bG abc=true:=aD
theorem aa8:Tm.f_ F6 0 []=(0,1,[abc]):=aD
theorem aa9:Tm.jo [abc]=F6++[10]:=aD
theorem aa_:Tm.eD [abc]=[abc]:=aD
theorem abb (w:World) (hV:Vars w) (hE:dz w):Calls prog 16 #[] w fun e w'=>e=.returned (.bool true)∧Below w.heap.size w w':=by
 have L0:=hid (fun W hV hE=>FZ [] W hV hE aC (0,0,[]) (Tm.Ue _ _) (fun _=>⟨aC,aC⟩));have L1:=hid (fun W hV hE=>FZ F6 W hV hE aH (0,1,[abc]) aa8 (fun _=>⟨fun t ht=>by rw [List.mem_singleton.1 ht];exact Od,aC⟩));have HV:=hid hV;have HE:=hid hE;have HB0:=hid (Below.refl w.heap.size w);clear hV hE;go_enter func16,ntmps16;go_upto_region 2 with (go_at_call 13;refine (L0.out _ HV.out HE.out).mono ?_;rintro e w1 ⟨⟨p,rfl,hS⟩,hB⟩;have qV:=hid hS;have HB1:=hid hB;clear hS hB)
 go_upto_region 3 with (go_at_call 13;refine (L1.out _ (HV.out.keep HB1.out) (HE.out.keep HB1.out)).mono ?_;rintro e w2 ⟨⟨q,rfl,hS⟩,hB⟩;have HS2:=hid hS;have HB2:=hid hB;clear hS hB)
 have BX:=hid (show iM w2 q [abc] by have h:=HS2.out;rw [show Tm.eD (0,1,[abc]).2.2=[abc] from aa_] at h;exact h);have Bq:=hid (show iM w2 p [] from qV.out.keep HB2.out);have dK:=hid (aG HB1.out HB2.out);have EX:=hid (show Calls prog 24 #[.pointer (some ⟨q,0,none⟩)] w2 fun e w'=>e=.returned (.string ⟨#[60,97,62,32,60,98,62,32,60,99,62,32,46,10]⟩)∧Below w2.heap.size w2 w' from by have h:=Oa q [abc] w2 BX.out (fun t ht=>by rw [List.mem_singleton.1 ht];exact Od) aC;rw [aa9] at h;exact h);go_wp2_with fail
 refine (F3 p [] _ Bq.out).mono ?_;rintro e w' ⟨rfl,rfl⟩;go_wp2_with fail
 refine (F3 q [abc] _ BX.out).mono ?_;rintro e w' ⟨rfl,rfl⟩;go_wp2_with (go_at_call 24;refine EX.out.mono ?_;rintro e w3 ⟨rfl,hB⟩;have HB3:=hid (aG dK.out hB);clear hB)
 go_ret;exact ⟨rfl,HB3.out⟩
theorem abd (p:Nat) (L:List TR) (hn:L.length≤1000) (w:World) (h:iM w p L) :
  Calls prog 30 #[.pointer (some ⟨p,0,none⟩)] w fun e w'=>∃ v',e=.returned v'∧bP w' v' (So.terms L)∧(0<(So.terms L).length→w'.ownsRow w.heap.size 61 3 v' (So.terms L).length (dG (So.terms L)))∧Below w.heap.size w w':=by
 obtain ⟨vt,ve,r,h1,h2,h3,h4⟩:=h;have hlen:=So.nK L;have CL:=hid (aa4 ve (So.terms L) w h3 aj);obtain ⟨a,c,rfl,_,_,_⟩:=h3.open;have c0:=h1.cell (i:=1) rfl;clear h1 h2 h3 h4 hlen;go_enter func30,ntmps30;go_wp2_with (go_at_call 72;refine CL.out.mono ?_;rintro e w1 ⟨v',rfl,hT,hO,hB⟩;have HT:=hid (And.intro hT (And.intro hO hB));clear hT hO hB)
 go_ret;exact ⟨v',rfl,HT.out⟩
theorem abe (p:Nat) (L:List TR) (hn:L.length≤1000) (w:World) (h:iM w p L) :
  Calls prog 35 #[.pointer (some ⟨p,0,none⟩)] w fun e w'=>∃ v',e=.returned v'∧bX w' v' (L.map bA)∧(0<L.length→w'.ownsRow w.heap.size 67 9 v' L.length (cu L))∧Below w.heap.size w w':=by
 obtain ⟨vt,ve,r,h1,h2,h3,h4⟩:=h;have CL:=hid (aa7 vt L w h2 aj);obtain ⟨a,c,rfl,_,_,_⟩:=h2.open;rw [List.length_map] at h1 CL;have c0:=h1.cell (i:=0) rfl;clear h1 h2 h3 h4;go_enter func35,ntmps35;go_wp2_with (go_at_call 76;refine CL.out.mono ?_;rintro e w1 ⟨v',rfl,hT,hO,hB⟩;have HT:=hid (And.intro hT (And.intro hO hB));clear hT hO hB)
 go_ret;exact ⟨v',rfl,HT.out⟩
end Go.Proofs.YtjaebndajhppgaaGreatDoor
