/-GSo3-/
import Derived.Test.YtjaebndajhppgaaGreatDoorMfHd1
import Derived.Test.YtjaebndajhppgaaGreatDoorMfGPar
import Derived.Test.YtjaebndajhppgaaGreatDoorMfGPr1
import Derived.Test.YtjaebndajhppgaaGreatDoorMfGTri
set_option linter.unusedVariables false
set_option linter.unusedSimpArgs false
set_option maxRecDepth 100000
set_option maxHeartbeats 8000000
namespace Go.Proofs.YtjaebndajhppgaaGreatDoor
open Go.Proofs.Tryz
open Go.ChangeShapes Go.WideShapes Go.ChangeAt Go.RowKit
theorem aeM (B b:Nat) (l:List UInt8) (w:World) (h:Lib.IsBuilder 174 5 B b (Lib.byteCells l) w) (hB:B≤w.heap.size) :
  Calls prog 111 #[.pointer (some ⟨b,0,none⟩)] w fun e w'=>e=.returned (aA l)∧Below B w w':=by by_cases h0:l=[];{subst h0;exact Any.Builder_String_empty Tryz.lays169 Tryz.Builder_Extra_169 B b w h hB};{exact Tryz.Builder_String B b l w h h0}
theorem aeN (L:List TR) (hl:∀ t∈L,Tm.aZ t=true) (hn:L.length≤1000000) (w:World) (v:Value) (hv:bJ w v (L.map aV)) :
  Calls prog 67 #[v] w fun e w'=>e=.returned (aA (Tm.iZ L))∧Below w.heap.size w w':=by
 obtain ⟨a,cap,rfl,hc1,hc2,hc3⟩:=hv.open;have HV:=aj hv;have HL:=aj hl;rw [List.length_map] at HV ⊢;obtain ⟨n,hn0⟩:=aB L.length;rw [←hn0] at HV hn ⊢;have HN:=aj hn0;have HB1:=aj (show Below w.heap.size w (w.alloc (.cells #[.pointer none,.slice none 0 0] 174)) from (Below.refl _ _).alloc aF _);have HI1:=aj (Lib.fresh_isBuilder 174 5 w);clear hv hl hc1 hc2 hc3 hn0;go_enter func67,ntmps67;go_wp2;go_loopg [5,8] n (fun gk s5 s8 wr=>∃ (i:Nat) (s:List UInt8),s8=.int .i64 i∧i≤n∧n-i≤gk∧Hid (Below w.heap.size w wr)∧Hid (s=Tm.iZ (L.take i))∧s.length≤801*i∧Hid (Lib.IsBuilder 174 5 w.heap.size w.heap.size (Lib.byteCells s) wr))
 case atStart=>exact ⟨0,[],rfl,Nat.zero_le _,Nat.le_refl _,HB1,aj rfl,aI,HI1⟩
 case round=>
  obtain ⟨i,s,rfl,hin,hg,HB,HS,hsl,HI⟩:=hrel;have iA:=HB.out.size;by_cases hlt:i<n
  · have hltz:(i:Int)<(n:Int):=ak;have bK:i<L.length:=(by rw [←HN.out];exact hlt);have HT1:=aj (HL.out L[i] (List.getElem_mem bK));have iJ:=aj (HV.out.keep HB.out);obtain ⟨bl,off,rfl,hrow⟩:=iJ.out.get (i:=i) (by rw [List.length_map];exact bK);have HRW:=aj (hrow i (by rw [List.length_map];exact bK));rw [List.getElem_map] at HRW;have jV:=aj (show Tm.iZ (L.take (i+1))=Tm.iZ (L.take i)++(Tm.iY L[i]++[10]) by rw [List.take_add_one,List.getElem?_eq_getElem bK];exact Tm.Oe _ _);obtain ⟨t,ht⟩:=aB (L[i]);rw [←ht] at HT1 HRW jV;obtain ⟨p1,p2,q1,q2,q3⟩:=Tm.qp HT1.out;have b1:=(Tm.gQ q1).1;have b2:=(Tm.gQ q2).1;have b3:=(Tm.gQ q3).1;have LP:=aj (R9 t);have SH:=aj (fun W=>Q7 t HT1.out W);obtain ⟨⟨n1,t1,x1⟩,⟨n2,t2,x2⟩,n3,t3,x3⟩:=t;unfold pq at SH;simp only at LP b1 b2 b3 SH;obtain ⟨y1,hy1⟩:=aB (Tm.aS n1 t1 x1);obtain ⟨y2,hy2⟩:=aB (Tm.aS n2 t2 x2);obtain ⟨y3,hy3⟩:=aB (Tm.aS n3 t3 x3);rw [←hy1] at SH LP b1;rw [←hy2] at SH LP b2;rw [←hy3] at SH LP b3;clear ht hrow q1 q2 q3 p1 p2 hy1 hy2 hy3;have c0:=HRW.out 0 ak;have c1:=HRW.out 1 ak;have c2:=HRW.out 2 ak;have c3:=HRW.out 3 ak;have c4:=HRW.out 4 ak;have c5:=HRW.out 5 ak;have c6:=HRW.out 6 ak;have c7:=HRW.out 7 ak;have c8:=HRW.out 8 ak;simp only [aV,dZ.cells,List.getElem?_cons_zero,List.getElem?_cons_succ,Nat.add_zero] at c0 c1 c2 c3 c4 c5 c6 c7 c8;have HB3:=aj (show Below w.heap.size w (aW wr n1 t1 x1 n2 t2 x2 n3 t3 x3) from HB.out.alloc iA _);have HI3:=aj (Jq (w':=aW wr n1 t1 x1 n2 t2 x2 n3 t3 x3) HI.out ((Below.refl _ _).alloc aF _));have dY:=aj (f_ wr n1 t1 x1 n2 t2 x2 n3 t3 x3);(go_upto_region 5 with fail);show Code.wp _ _ _ _ (aW wr n1 t1 x1 n2 t2 x2 n3 t3 x3);obtain ⟨w3,hw3⟩:=aB (aW wr n1 t1 x1 n2 t2 x2 n3 t3 x3);rw [←hw3] at HB3 HI3 dY ⊢;clear hw3 c0 c1 c2 c3 c4 c5 c6 c7 c8;obtain ⟨c0,c1,c2,c3,c4,c5,c6,c7,c8⟩:=dQ dY.out;(go_wp2_with fail);refine (SH.out _).mono ?_;rintro e w4 ⟨b4,rfl,hb4,hblk,hlow⟩;have aT:=aj (aJ HB3.out hlow);have HI4:=aj (Jq HI3.out hlow);have JN:=aj (aeG b4 y1 y2 y3 w4 hblk ak ak ak);clear hlow hblk;(go_wp2_with fail);refine JN.out.mono ?_;rintro e w5 ⟨rfl,hlow⟩;have aO:=aj (aJ aT.out hlow);have HI5:=aj (Jq HI4.out hlow);have Si:=aj (R6 w.heap.size w.heap.size (Lib.byteCells s) (y1++32::(y2++32::y3)) w5 HI5.out (by simp only [Lib.byteCells,List.length_map,List.length_append,List.length_cons];omega) aO.out.size);clear hlow JN;(go_wp2_with fail);refine Si.out.mono ?_;rintro e w6 ⟨⟨n6,rfl⟩,Sj,hlow⟩;have aU:=aj (aO.out.trans hlow);have HI6:=aj Sj;have Sk:=aj (R6 w.heap.size w.heap.size _ [32,46,10] w6 (.inr HI6.out) (by simp only [Lib.byteCells,List.length_map,List.length_append,List.length_cons,List.length_nil];omega) aU.out.size);clear hlow Si Sj;(go_wp2_with fail);refine Sk.out.mono ?_;rintro e w7 ⟨⟨n7,rfl⟩,Jt,hlow⟩;have bS:=aj (aU.out.trans hlow);rw [R8,R8] at Jt;have HI7:=aj (show Lib.IsBuilder 174 5 w.heap.size w.heap.size (Lib.byteCells (s++(y1++32::(y2++32::y3))++[32,46,10])) w7 from .inr Jt);have oz:=aj (show s++(y1++32::(y2++32::y3))++[32,46,10]=Tm.iZ (L.take (i+1)) by rw [jV.out,LP.out,←HS.out];simp);clear hlow Sk Jt;go_wp2;go_roundg (n-(i+1))
    (case measure=>omega);case rel=>exact ⟨i+1,_,aN,ak,ak,bS.out,oz.out,by simp only [List.length_append,List.length_cons,List.length_nil];omega,HI7.out⟩
  {obtain rfl:i=n:=ak;have hltz:¬ (i:Int)<(i:Int):=ak;have HE:=aj (show s=Tm.iZ L by rw [HS.out,HN.out,List.take_length]);have BS:=aj (aeM w.heap.size w.heap.size s wr HI.out iA);(go_wp2_with fail);refine BS.out.mono ?_;rintro e w8 ⟨rfl,hlow⟩;have aX:=aj (HB.out.trans hlow);go_wp2;go_ret;exact ⟨by rw [←HE.out];rfl,aX.out⟩}
open Go.Sort
def aeO (w:World) (r:Nat×Nat×List TR) (e:Ending) (w':World):Prop:=
 (if r.1=0 then ∃ p,e=.returned (.tuple #[.pointer (some ⟨p,0,none⟩),.int .i64 (r.2.1:Nat),.int .i64 0])∧gW w' p (Tm.gu r.2.2)
  else e=.returned (.tuple #[.pointer none,.int .i64 (r.2.1:Nat),.int .i64 (r.1:Nat)]))∧Below w.heap.size w w'
theorem Sl (s:List UInt8) (w:World) (hV:dF w) (hE:cu w) (hl:s.length≤20000) (R:Nat×Nat×List TR) (Az:Tm.jH s 0 []=R)
  (ht:R.1=0→(∀ t∈R.2.2,Tm.aZ t=true)∧R.2.2.length≤100):Calls prog 13 #[aA s] w (aeO w R):=by
 have PA:=aj (aeL s w hV hE hl R Az);have BU:=aj (fun hz W v hv=>IZ (Tm.gu R.2.2) (Tm.yS (ht hz).1) (Tm.C_ (ht hz).1) (Nat.le_trans (Tm.yX _) (ht hz).2) W v hv);obtain ⟨E,N,l⟩:=R;simp only at ht BU;clear hV hE hl Az ht;by_cases hz:E=0
 · subst hz;replace BU:=aj (BU.out rfl);go_enter func13,ntmps13;go_wp2_with (first
    | (go_at_call 42;refine PA.out.mono ?_;rintro e w1 ⟨v,rfl,hT0,hB⟩;have hT:=(show bJ w1 v ((Tm.gu l).map aV) from hT0);clear hT0;obtain ⟨va,vc,rfl,_,_,_⟩:=hT.open;rw [List.length_map] at hT ⊢;have HT:=aj hT;have HB:=aj hB;clear hT hB)
    | (go_at_call 43;refine (BU.out _ _ HT.out).mono ?_;rintro e w2 ⟨p,rfl,hS,hB2⟩;have HS:=aj hS;have HB2:=aj hB2;clear hS hB2))
   go_ret3
   exact ⟨⟨p,rfl,HS.out⟩,aJ HB.out HB2.out⟩
 · have hz2:((E:Int)==0)=false:=beq_eq_false_iff_ne.2 ak;have HZ:=aj hz;clear hz;go_enter func13,ntmps13;(go_wp2_with (go_at_call 42;refine PA.out.mono ?_;rintro e w1 ⟨v,rfl,hT,hB⟩;obtain ⟨va,vc,rfl,_,_,_⟩:=hT.open;have HB:=aj hB;clear hT hB));go_ret3
   exact ⟨by rw [if_neg HZ.out];rfl,HB.out⟩
theorem Ju (p:Nat) (L:List TR) (w:World) (h:gW w p L):Calls prog 34 #[.pointer (some ⟨p,0,none⟩)] w fun e w'=>e=.returned (.int .i64 L.length)∧w'=w:=by obtain ⟨vt,ve,r,h1,h2,h3,h4⟩:=h;obtain ⟨a,c,rfl,_,_,_⟩:=h2.open;rw [List.length_map] at h1;have c0:=h1.cell (i:=0) rfl;clear h1 h2 h3 h4;go_enter func34,ntmps34;go_wp2;go_ret;exact ⟨rfl,rfl⟩
theorem aeP (p:Nat) (L:List TR) (w:World) (h:gW w p L):Calls prog 36 #[.pointer (some ⟨p,0,none⟩)] w fun e w'=>(∃ r,e=.returned (.pointer (some ⟨r,0,none⟩))∧kr w r (So.ids L))∧w'=w:=by obtain ⟨vt,ve,r,h1,h2,h3,h4⟩:=h;have c2:=h1.cell (i:=2) rfl;have H4:=aj h4;clear h1 h2 h3 h4;go_enter func36,ntmps36;go_wp2;go_ret;exact ⟨⟨r,rfl,H4.out⟩,rfl⟩
theorem Sm (p:Nat) (L:List TR) (w:World) (h:gW w p L) (hl:∀ t∈L,Tm.aZ t=true) (hn:L.length≤1000000):Calls prog 24 #[.pointer (some ⟨p,0,none⟩)] w fun e w'=>e=.returned (aA (Tm.iZ L))∧Below w.heap.size w w':=by
 obtain ⟨vt,ve,r,h1,h2,h3,h4⟩:=h;have PP:=aj (aeN L hl hn w vt h2);obtain ⟨a,c,rfl,_,_,_⟩:=h2.open;rw [List.length_map] at h1 PP;have c0:=h1.cell (i:=0) rfl;clear h1 h2 h3 h4;go_enter func24,ntmps24;go_wp2_with (go_at_call 67;refine PP.out.mono ?_;rintro e w1 ⟨rfl,hB⟩;have HB:=aj hB;clear hB)
 go_ret;exact ⟨rfl,HB.out⟩
theorem Jv {fn:Func} {tmps:Array Value} {Z:World} {b:Nat} {v0 v1 v2 v:Value} (ht:tmps.getD 4 undef=.pointer (some ⟨b,0,none⟩)) (h5:tmps.getD 5 undef=v) (hZ:aC Z b [v0,v1,v2] 61) (hf:fn.results=#[.cell 4 61,.tmp 5]) :
  (results fn tmps).run prog Z=.ok (.tuple #[.agg #[v0,v1,v2],v]) Z:=by
 obtain ⟨h0,h1,h2⟩:=bO hZ;have ht':tmps[4]?.getD undef=.pointer (some ⟨b,0,none⟩):=by simpa using ht
 have h5':tmps[5]?.getD undef=v:=by simpa using h5
 simp [results,hf,ht',h5',go_sem,h0,h1,h2]
theorem Sn {W:World} {base g cap:Nat} {E:List T3} (h:W.ownsRow base 61 3 (.slice (some ⟨g,0,none⟩) E.length cap) E.length (b_ E)) (hc:E.length≤cap) (hm:cap≤maxLen):bF W (.slice (some ⟨g,0,none⟩) E.length cap) E:=by refine ⟨some ⟨g,0,none⟩,cap,rfl,hc,hm,(fun h=>by cases h),Or.inr ⟨g,0,rfl,fun i hi c hc=>?_⟩⟩;rw [Nat.zero_add,h.cellAt _ ak,Es E i c hi hc]
theorem Sq {w:World} {b off:Nat} {E:List T3} (h:∀ i (h:i<E.length) c,c<3→w.cell? ⟨b,off+i*3+c,none⟩=(bU E[i])[c]?):∀ j u,(b_ E)[j]?=some u→w.cell? ⟨b,off+j,none⟩=some u:=by
 intro j u hu;have hj:j<E.length*3:=by rw [←sM];exact (List.getElem?_eq_some_iff.1 hu).1
 have hi:j / 3<E.length:=ak;have h1:=h (j / 3) hi (j % 3) (Nat.mod_lt _ aL);have h2:=Es E (j / 3) (j % 3) hi (Nat.mod_lt _ aL);rw [show j / 3*3+j % 3=j by omega] at h2;rw [show off+j / 3*3+j % 3=off+j by omega,←h2,hu] at h1;exact h1
theorem aeQ (v0:Value) (E:List T3) (w:World) (h:bF w v0 E) (hl:E.length≤1000000) :
  Calls prog 72 #[v0] w fun e w'=>∃ v',e=.returned v'∧bF w' v' E∧(0<E.length→w'.ownsRow w.heap.size 61 3 v' E.length (b_ E))∧Below w.heap.size w w':=by
 obtain ⟨i0,hi,hz0,hz1,hz2⟩:=Ag;have hx:=h;obtain ⟨a,cap,rfl,h2,h3,h4,h5⟩:=hx;cases a with
 | none=>have hcap:=h4 rfl;have h0:E=[]:=List.eq_nil_of_length_eq_zero ak;have:=AnyE.slices_Clone_nil Tryz.cloneTerms E.length cap w;change Calls prog 72 _ _ _ at this;refine this.mono ?_;rintro e w' ⟨rfl,rfl⟩;subst h0;exact ⟨_,rfl,bF.nil _,fun h=>absurd h aI,Below.refl _ _⟩
 | some ad=>rcases h5 with h5 | ⟨b,off,e,h5⟩;{have h0:E=[]:=List.eq_nil_of_length_eq_zero h5;subst h0;have he:=fun W=>Go.Lib.run_eql_slice_nil (P:=prog) W 62 61 (some ad) 0 cap 0 0 underlying62;simp only [List.length_nil] at *;clear h h2 h5 hl;go_enter func72,ntmps72;(go_wp2_with (at_builtin;refine wpList_append_own _ rfl _ _ 62 rfl w.heap.size 61 i0 _ 3 40 underlying62 hi hz0 hz1 hz2 rfl aL _ _ _ rfl (World.ownsRow_made w #[] 0 aF (Nat.zero_le _) aI) ad 0 cap [] rfl ?qc1 ?qc2 ?qc3 ?qc4 ?qc5 ?qc6 ?_));(case qc1=>rfl);(case qc2=>intro j u hj;simp at hj);(case qc3=>intro u hu;cases hu);(case qc4=>unfold maxLen;omega);(case qc5=>omega);(case qc6=>simp);intro v' w1 hown hgrow hnil;have hb:Below w.heap.size w w1:=((Below.refl _ w).alloc aF _).grown hgrow aI (by intro k hk;simp [Value.ownBlock] at hk;omega);obtain ⟨a,cp,rfl,k1,k2⟩:∃ a cp,v'=.slice a 0 cp∧0≤cp∧(cp≤maxLen∧(a=none→cp=0)):=(by rcases hown.2 with ⟨rfl,_⟩ | ⟨g,cp,cur,rfl,hg,hh,hcp,hcm,_⟩;{exact ⟨none,0,rfl,Nat.le_refl _,by unfold maxLen;omega,fun _=>rfl⟩};{exact ⟨_,cp,rfl,hcp,hcm,fun h=>by cases h⟩});have HH:=aj (And.intro k1 k2);clear hown hgrow hnil k1 k2;have HB:=aj hb;clear hb;go_wp2;go_ret;exact ⟨_,rfl,⟨a,cp,rfl,HH.out.1,HH.out.2.1,HH.out.2.2,Or.inl rfl⟩,fun h=>absurd h aI,HB.out⟩};{cases e;have hc:=Sq h5;have:=AnyE.slices_Clone Tryz.cloneTerms i0 _ 3 40 hi hz0 hz1 hz2 rfl aL sizeOf61 b off E.length cap (b_ E) w (sM E) (by unfold maxLen;omega) ak hc (n_ E);change Calls prog 72 _ _ _ at this;refine this.mono ?_;rintro e w' ⟨v',rfl,hO,hne,hb⟩;have uH:=hO;rcases hO.2 with ⟨rfl,_⟩ | ⟨g,cp,cur,rfl,hg,hh,hcp,hcm,_⟩;{exact absurd rfl hne};{exact ⟨_,rfl,Sn uH hcp hcm,fun _=>uH,hb⟩}}
theorem Jw:∀ (l:List TR),(bR l).length=l.length*9
 | []=>rfl
 | a::E=>by
  have:=Jw E
  show ((aV a).cells++bR E).length=_
  rw [List.length_append,this,List.length_cons];show 9+_=_;omega
theorem aeR (l:List TR):∀ u∈bR l,u.oneCell'=true:=by intro u hu;obtain ⟨a,_,h⟩:=List.mem_flatMap.1 hu;exact pI a u h
theorem aeS {w:World} {b off:Nat} {l:List TR} (h:∀ i (h:i<(l.map aV).length),rT w b (off+i*9) (l.map aV)[i]):∀ j u,(bR l)[j]?=some u→w.cell? ⟨b,off+j,none⟩=some u:=by
 intro j u hu;have hj:j<l.length*9:=by rw [←Jw];exact (List.getElem?_eq_some_iff.1 hu).1
 have hi:j / 9<l.length:=ak;have h1:=h (j / 9) (by rw [List.length_map];exact hi) (j % 9) (Nat.mod_lt _ aL);have h2:=EA l (j / 9) (j % 9) hi (Nat.mod_lt _ aL);rw [show j / 9*9+j % 9=j by omega] at h2;rw [List.getElem_map,show off+j / 9*9+j % 9=off+j by omega,←h2,hu] at h1;exact h1
theorem aeT (v0:Value) (L:List TR) (w:World) (h:bJ w v0 (L.map aV)) (hl:L.length≤1000000) :
  Calls prog 76 #[v0] w fun e w'=>∃ v',e=.returned v'∧bJ w' v' (L.map aV)∧(0<L.length→w'.ownsRow w.heap.size 67 9 v' L.length (bR L))∧Below w.heap.size w w':=by
 obtain ⟨i0,hi,hz0,hz1,hz2⟩:=sI;have hx:=h;obtain ⟨a,cap,rfl,h2,h3,h4,h5⟩:=hx;rw [List.length_map] at *;cases a with
 | none=>have hcap:=h4 rfl;have h0:L=[]:=List.eq_nil_of_length_eq_zero ak;have:=AnyE.slices_Clone_nil Tryz.cloneTris L.length cap w;change Calls prog 76 _ _ _ at this;refine this.mono ?_;rintro e w' ⟨rfl,rfl⟩;subst h0;exact ⟨_,rfl,bJ.nil _,fun h=>absurd h aI,Below.refl _ _⟩
 | some ad=>rcases h5 with h5 | ⟨b,off,e,h5⟩;{have h0:L=[]:=List.eq_nil_of_length_eq_zero (by simpa using h5);subst h0;have he:=fun W=>Go.Lib.run_eql_slice_nil (P:=prog) W 39 67 (some ad) 0 cap 0 0 underlying39;simp only [List.length_nil] at *;clear h h2 h5 hl;go_enter func76,ntmps76;(go_wp2_with (at_builtin;refine wpList_append_own _ rfl _ _ 39 rfl w.heap.size 67 i0 _ 9 120 underlying39 hi hz0 hz1 hz2 rfl aL _ _ _ rfl (World.ownsRow_made w #[] 0 aF (Nat.zero_le _) aI) ad 0 cap [] rfl ?qc1 ?qc2 ?qc3 ?qc4 ?qc5 ?qc6 ?_));(case qc1=>rfl);(case qc2=>intro j u hj;simp at hj);(case qc3=>intro u hu;cases hu);(case qc4=>unfold maxLen;omega);(case qc5=>omega);(case qc6=>simp);intro v' w1 hown hgrow hnil;have hb:Below w.heap.size w w1:=((Below.refl _ w).alloc aF _).grown hgrow aI (by intro k hk;simp [Value.ownBlock] at hk;omega);obtain ⟨a,cp,rfl,k1,k2⟩:∃ a cp,v'=.slice a 0 cp∧0≤cp∧(cp≤maxLen∧(a=none→cp=0)):=(by rcases hown.2 with ⟨rfl,_⟩ | ⟨g,cp,cur,rfl,hg,hh,hcp,hcm,_⟩;{exact ⟨none,0,rfl,Nat.le_refl _,by unfold maxLen;omega,fun _=>rfl⟩};{exact ⟨_,cp,rfl,hcp,hcm,fun h=>by cases h⟩});have HH:=aj (And.intro k1 k2);clear hown hgrow hnil k1 k2;have HB:=aj hb;clear hb;go_wp2;go_ret;exact ⟨_,rfl,⟨a,cp,rfl,HH.out.1,HH.out.2.1,HH.out.2.2,Or.inl rfl⟩,fun h=>absurd h aI,HB.out⟩};{cases e;have hc:=aeS h5;have:=AnyE.slices_Clone Tryz.cloneTris i0 _ 9 120 hi hz0 hz1 hz2 rfl aL sizeOf67 b off L.length cap (bR L) w (Jw L) (by unfold maxLen;omega) ak hc (aeR L);change Calls prog 76 _ _ _ at this;refine this.mono ?_;rintro e w' ⟨v',rfl,hO,hne,hb⟩;exact ⟨_,rfl,Ay hO,fun _=>hO,hb⟩}
def abc:TR:=((1,[97],[]),(1,[98],[]),1,[99],[])
def Jy:List UInt8:=[60,97,62,32,60,98,62,32,60,99,62,32,46]
theorem Sr:Tm.aZ abc=true:=aG
theorem aeU:Tm.jH Jy 0 []=(0,1,[abc]):=aG
theorem aeV:Tm.iZ [abc]=Jy++[10]:=aG
theorem aeW:Tm.gu [abc]=[abc]:=aG
theorem Sv (w:World) (hV:dF w) (hE:cu w):Calls prog 16 #[] w fun e w'=>e=.returned (.bool true)∧Below w.heap.size w w':=by
 have L0:=aj (fun W hV hE=>Sl [] W hV hE aI (0,0,[]) (Tm.ZC _ _) (fun _=>⟨aI,aI⟩));have L1:=aj (fun W hV hE=>Sl Jy W hV hE aL (0,1,[abc]) aeU (fun _=>⟨fun t ht=>by rw [List.mem_singleton.1 ht];exact Sr,aI⟩));have HV:=aj hV;have HE:=aj hE;have HB0:=aj (Below.refl w.heap.size w);clear hV hE;go_enter func16,ntmps16;go_upto_region 2 with (go_at_call 13;refine (L0.out _ HV.out HE.out).mono ?_;rintro e w1 ⟨⟨p,rfl,hS⟩,hB⟩;have wT:=aj hS;have HB1:=aj hB;clear hS hB)
 go_upto_region 3 with (go_at_call 13;refine (L1.out _ (HV.out.keep HB1.out) (HE.out.keep HB1.out)).mono ?_;rintro e w2 ⟨⟨q,rfl,hS⟩,hB⟩;have HS2:=aj hS;have HB2:=aj hB;clear hS hB)
 have uV:=aj (show gW w2 q [abc] by have h:=HS2.out;rw [show Tm.gu (0,1,[abc]).2.2=[abc] from aeW] at h;exact h);have Em:=aj (show gW w2 p [] from wT.out.keep HB2.out);have dw:=aj (aJ HB1.out HB2.out);have EX:=aj (show Calls prog 24 #[.pointer (some ⟨q,0,none⟩)] w2 fun e w'=>e=.returned (.string ⟨#[60,97,62,32,60,98,62,32,60,99,62,32,46,10]⟩)∧Below w2.heap.size w2 w' from by have h:=Sm q [abc] w2 uV.out (fun t ht=>by rw [List.mem_singleton.1 ht];exact Sr) aI;rw [aeV] at h;exact h);go_wp2_with fail
 refine (Ju p [] _ Em.out).mono ?_;rintro e w' ⟨rfl,rfl⟩;go_wp2_with fail
 refine (Ju q [abc] _ uV.out).mono ?_;rintro e w' ⟨rfl,rfl⟩;go_wp2_with (go_at_call 24;refine EX.out.mono ?_;rintro e w3 ⟨rfl,hB⟩;have HB3:=aj (aJ dw.out hB);clear hB)
 go_ret;exact ⟨rfl,HB3.out⟩
theorem aeX (p:Nat) (L:List TR) (hn:L.length≤1000) (w:World) (h:gW w p L) :
  Calls prog 30 #[.pointer (some ⟨p,0,none⟩)] w fun e w'=>∃ v',e=.returned v'∧bF w' v' (So.terms L)∧(0<(So.terms L).length→w'.ownsRow w.heap.size 61 3 v' (So.terms L).length (b_ (So.terms L)))∧Below w.heap.size w w':=by
 obtain ⟨vt,ve,r,h1,h2,h3,h4⟩:=h;have hlen:=So.nA L;have CL:=aj (aeQ ve (So.terms L) w h3 ak);obtain ⟨a,c,rfl,_,_,_⟩:=h3.open;have c0:=h1.cell (i:=1) rfl;clear h1 h2 h3 h4 hlen;go_enter func30,ntmps30;go_wp2_with (go_at_call 72;refine CL.out.mono ?_;rintro e w1 ⟨v',rfl,hT,hO,hB⟩;have HT:=aj (And.intro hT (And.intro hO hB));clear hT hO hB)
 go_ret;exact ⟨v',rfl,HT.out⟩
theorem aeY (p:Nat) (L:List TR) (hn:L.length≤1000) (w:World) (h:gW w p L) :
  Calls prog 35 #[.pointer (some ⟨p,0,none⟩)] w fun e w'=>∃ v',e=.returned v'∧bJ w' v' (L.map aV)∧(0<L.length→w'.ownsRow w.heap.size 67 9 v' L.length (bR L))∧Below w.heap.size w w':=by
 obtain ⟨vt,ve,r,h1,h2,h3,h4⟩:=h;have CL:=aj (aeT vt L w h2 ak);obtain ⟨a,c,rfl,_,_,_⟩:=h2.open;rw [List.length_map] at h1 CL;have c0:=h1.cell (i:=0) rfl;clear h1 h2 h3 h4;go_enter func35,ntmps35;go_wp2_with (go_at_call 76;refine CL.out.mono ?_;rintro e w1 ⟨v',rfl,hT,hO,hB⟩;have HT:=aj (And.intro hT (And.intro hO hB));clear hT hO hB)
 go_ret;exact ⟨v',rfl,HT.out⟩
end Go.Proofs.YtjaebndajhppgaaGreatDoor
