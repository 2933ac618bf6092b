/-LnOne2-/
import Derived.Test.YtjaebndajhppgaaGreatDoorMlHd0
import Derived.Test.YtjaebndajhppgaaGreatDoorMlGTri
import Derived.Test.YtjaebndajhppgaaGreatDoorMlPrOne
set_option linter.unusedVariables false
set_option linter.unusedSimpArgs false
set_option maxRecDepth 100000
set_option maxHeartbeats 4000000
namespace Go.Proofs.YtjaebndajhppgaaGreatDoor
open Go.Proofs.Tryz
open Go.ChangeShapes Go.WideShapes Go.ChangeAt Go.RowKit
theorem adu (q:Nat) (w:World) (hr:Rd w q [] true) :
  Calls prog 135 #[bB q] w (jD q w none):=by
 have HR:=hid hr;have fE:=hid (fun w (hr:Rd w q [] true)=>dU q [] [60] true w hr aC aC);rw [show decide (([]:List UInt8).take ([60]:List UInt8).length=[60])=false from rfl] at fE;have HA1:=hid (fun w (hr:Rd w q [] true)=>dU q [] [95,58] true w hr aC aC);rw [show decide (([]:List UInt8).take ([95,58]:List UInt8).length=[95,58])=false from rfl] at HA1;have HA2:=hid (fun w (hr:Rd w q [] true)=>dU q [] [34] true w hr aC aC);rw [show decide (([]:List UInt8).take ([34]:List UInt8).length=[34])=false from rfl] at HA2;have BL:=hid (fun w (h:Rd w q [] true)=>h_ q [] true w h aC);clear hr;go_enter func135,ntmps135;have hlt:=(HR.out).lt;have HB2:=hid (show But q w ((w.alloc (.cells #[.int .i64 0,.string ⟨#[]⟩,.string ⟨#[]⟩] 61)).alloc (.cells #[.int .i64 0,.string ⟨#[]⟩,.string ⟨#[]⟩] 61)) from But.below (((Below.refl w.heap.size w).alloc ay _).alloc aC _));have HT2:=hid ((ak.new w [.int .i64 0,str [],str []] 61).alloc (.cells #[.int .i64 0,.string ⟨#[]⟩,.string ⟨#[]⟩] 61));have bg:=hid (show ak ((w.alloc (.cells #[.int .i64 0,.string ⟨#[]⟩,.string ⟨#[]⟩] 61)).alloc (.cells #[.int .i64 0,.string ⟨#[]⟩,.string ⟨#[]⟩] 61)) (w.heap.size+1) [.int .i64 0,str [],str []] 61 from ak.new' aC rfl);have HR2:=hid ((HR.out.keep ((Below.refl _ _).alloc ay (.cells #[.int .i64 0,.string ⟨#[]⟩,.string ⟨#[]⟩] 61))).keep ((Below.refl _ _).alloc ay (.cells #[.int .i64 0,.string ⟨#[]⟩,.string ⟨#[]⟩] 61)));have hq2:q≠w.heap.size+1:=aj;have hq0:q≠w.heap.size:=aj;go_wp2_with fail
 refine (fE.out _ HR2.out).mono ?_;rintro e w3 ⟨rfl,rfl⟩;go_wp2_with fail
 refine (HA1.out _ HR2.out).mono ?_;rintro e w3 ⟨rfl,rfl⟩;go_wp2_with fail
 refine (HA2.out _ HR2.out).mono ?_;rintro e w3 ⟨rfl,rfl⟩;obtain ⟨w6,bV⟩:=aA ((w.alloc (.cells #[.int .i64 0,.string ⟨#[]⟩,.string ⟨#[]⟩] 61)).alloc (.cells #[.int .i64 0,.string ⟨#[]⟩,.string ⟨#[]⟩] 61));rw [←bV] at HB2 HT2 bg HR2 ⊢;clear bV;have aJ:=bg;have bC:=HT2;have bN:=HR2;have aO:=HB2;have d0:=aJ.out.cell (i:=0) rfl;have d1:=aJ.out.cell (i:=1) rfl;have d2:=aJ.out.cell (i:=2) rfl;have e0:=aJ.out.free 0;have e1:=aJ.out.free 1;have e2:=aJ.out.free 2;obtain ⟨r0,r1,p0,p1⟩:=bN.out.cells;go_wp2_with fail
 refine (BL.out _ bN.out).mono ?_;rintro e w9 ⟨rfl,dL,hb⟩;have aF:=hid (aO.out.trans hb);have aQ:=hid (But.blk bC.out hb aj);have aY:=hid (But.blk aJ.out hb aj);have eY:=hid dL;clear hb dL;have d0:=aY.out.cell (i:=0) rfl;have d1:=aY.out.cell (i:=1) rfl;have d2:=aY.out.cell (i:=2) rfl;have g0:=aQ.out.cell (i:=0) rfl;have g1:=aQ.out.cell (i:=1) rfl;have g2:=aQ.out.cell (i:=2) rfl;have k0:=aQ.out.free 0;have k1:=aQ.out.free 1;have k2:=aQ.out.free 2;go_wp2;have HX:=kC (hT:=aQ.out) (v0:=.int .i64 0) (v1:=.string ⟨([]:List UInt8).toArray⟩) (v2:=.string ⟨([]:List UInt8).toArray⟩) (hq:=eY.out) (hne:=aj) (hB:=aF.out) (hb:=Nat.le_refl _);obtain ⟨hx1,hx2,hx3⟩:=HX;exact bodyPost_ret (v:=bM 0 [] []) (kD rfl hx1 results135) rfl ⟨hx3,⟨0,[],[],rfl⟩,hx2⟩
def eZ (w:World) (q:Nat):Option (List UInt8)→Prop
 | none=>Rd w q [] true
 | some s=>Rd w q s false
def dD (o:Option (List UInt8)):Option (Nat×List UInt8×List UInt8×List UInt8):=match o with
 | none=>none
 | some s=>Tm.dY s
def rest (r:Option (Nat×List UInt8×List UInt8×List UInt8)):Option (List UInt8):=match r with
 | none=>none
 | some p=>some p.2.2.2
theorem jA (q:Nat) (o:Option (List UInt8)) (w W0:World) (hbase:eB W0 w q) (hl:∀ s,o=some s→s.length≤10000000) (hr:eZ w q o) :
  Calls prog 135 #[bB q] w fun e w'=>(∃ (k:Int) (t x:List UInt8),e=.returned (bM k t x)∧∀ a,dD o=some a→k=(a.1:Int)∧t=a.2.1∧x=a.2.2.1)∧eZ w' q (rest (dD o))∧But q w w':=by
 cases o with
 | none=>refine (adu q w hr).mono ?_;rintro e w' ⟨hb,⟨k,t,x,rfl⟩,hr⟩;exact ⟨⟨k,t,x,rfl,fun a h=>by cases h⟩,hr,hb⟩
 | some s=>
  refine (Tp q s w W0 hbase (hl s rfl) hr).mono ?_;show ∀ e w',jD q w (Tm.dY s) e w'→_;intro e w' h;show (∃ (k:Int) (t x:List UInt8),e=.returned (bM k t x)∧∀ a,Tm.dY s=some a→k=(a.1:Int)∧t=a.2.1∧x=a.2.2.1)∧eZ w' q (rest (Tm.dY s))∧But q w w';cases hx:Tm.dY s with
  | none=>rw [hx] at h;obtain ⟨hb,⟨k,t,x,rfl⟩,hr⟩:=h;exact ⟨⟨k,t,x,rfl,fun a h=>by cases h⟩,hr,hb⟩
  | some p=>obtain ⟨k,t,x,v⟩:=p;rw [hx] at h;obtain ⟨hb,rfl,hr⟩:=h;exact ⟨⟨(k:Nat),t,x,rfl,fun a h=>by cases h;exact ⟨rfl,rfl,rfl⟩⟩,hr,hb⟩
theorem kW {s:List UInt8} {a:Nat×List UInt8×List UInt8×List UInt8} (h:Tm.dY s=some a):a.2.1.length≤4*s.length∧a.2.2.1.length≤4*s.length∧a.2.2.2.length≤s.length:=by
 rw [Tm.wE] at h;cases hx:Tm.rt s with
 | none=>rw [hx] at h;cases h
 | some p=>obtain ⟨b,r⟩:=p;rw [hx] at h;simp only at h;split at h;{simp only [Option.some.injEq] at h;have:=Tm.wF hx;subst h;exact ⟨this.1,this.2.1,this.2.2.1⟩};{cases h}
theorem adv {s:List UInt8} (hv:Lib.validD s=true) (he:Tm.fF (s.dropWhile bE)=false) (h:rest (dD (rest (dD (rest (dD (some (s.dropWhile bE)))))))=none):Tm.one s=none:=by
 unfold Tm.one;rw [if_neg (by rw [hv];decide),if_neg (by rw [he];decide)];unfold Tm.iU;have h0:dD (some (s.dropWhile bE))=Tm.dY (s.dropWhile bE):=rfl;rw [h0,Tm.wE] at h;cases h1:Tm.rt (s.dropWhile bE) with
 | none=>rfl
 | some p=>
  obtain ⟨a,r⟩:=p;rw [h1] at h;simp only at h ⊢;cases g1:Tm.dJ a
  · cases Tm.rt r with
    | none=>rfl
    | some p=>
     obtain ⟨b,u⟩:=p;simp only;cases Tm.rt u with
     | none=>rfl
     | some p=>
      obtain ⟨c,v⟩:=p;simp only;cases Tm.point v with
      | none=>rfl
      | some z=>simp only;rw [if_neg];rintro ⟨_,h⟩;unfold Tm.bG at h;simp only [Bool.and_eq_true] at h;rw [g1] at h;simp at h
  · rw [g1,if_pos rfl] at h;have h0:dD (rest (some (a.1,a.2.1,a.2.2,r)))=Tm.dY r:=rfl;rw [h0,Tm.wE] at h;cases h2:Tm.rt r with
    | none=>rfl
    | some p=>
     obtain ⟨b,u⟩:=p;rw [h2] at h;simp only at h ⊢;cases g2:Tm.dJ b
     · cases Tm.rt u with
       | none=>rfl
       | some p=>
        obtain ⟨c,v⟩:=p;simp only;cases Tm.point v with
        | none=>rfl
        | some z=>simp only;rw [if_neg];rintro ⟨_,h⟩;unfold Tm.bG at h;simp only [Bool.and_eq_true] at h;rw [g2] at h;simp at h
     · rw [g2,if_pos rfl] at h;have h0:dD (rest (some (b.1,b.2.1,b.2.2,u)))=Tm.dY u:=rfl;rw [h0,Tm.wE] at h;cases h3:Tm.rt u with
       | none=>rfl
       | some p=>
        obtain ⟨c,v⟩:=p;rw [h3] at h;simp only at h ⊢;cases g3:Tm.dJ c
        · cases Tm.point v with
          | none=>rfl
          | some z=>simp only;rw [if_neg];rintro ⟨_,h⟩;unfold Tm.bG at h;simp only [Bool.and_eq_true] at h;rw [g3] at h;simp at h
        {rw [g3,if_pos rfl] at h;cases h}
theorem CJ {o:Option (List UInt8)} {v:List UInt8} (h:rest (dD o)=some v):∃ s a,o=some s∧Tm.rt s=some (a,v)∧Tm.dJ a=true∧dD o=some (a.1,a.2.1,a.2.2,v):=by
 cases o with
 | none=>cases h
 | some s=>
  have h0:dD (some s)=Tm.dY s:=rfl;rw [h0,Tm.wE] at h ⊢;cases h1:Tm.rt s with
  | none=>rw [h1] at h;cases h
  | some p=>obtain ⟨a,r⟩:=p;rw [h1] at h;simp only at h ⊢;cases g:Tm.dJ a;{rw [g] at h;cases h};{rw [g,if_pos rfl] at h;cases h;exact ⟨s,a,rfl,h1,g,rfl⟩}
theorem eZ.keep {w w':World} {q:Nat} {o:Option (List UInt8)} (h:eZ w q o) (hb:Below w.heap.size w w'):eZ w' q o:=by cases o <;> exact Rd.keep h hb
theorem eZ.other {w:World} {q b:Nat} {o:Option (List UInt8)} (h:eZ w q o) (hn:q≠b) (i:Nat) (v:Value):eZ (w.setCell ⟨b,i,none⟩ v) q o:=by cases o <;> exact ak.other h hn i v
theorem nk {o:Option (List UInt8)} {n:Nat} (h:∀ s,o=some s→s.length≤n):∀ s,rest (dD o)=some s→s.length≤n:=by intro s hs;obtain ⟨u,a,h1,h2,_⟩:=CJ hs;have:=(Tm.wF h2).2.2.1;have:=h u h1;omega
theorem eB.mk' {W0 w:World} {q:Nat} (hV:Vars W0) (hb:Below W0.heap.size W0 w) (hq:W0.heap.size≤q):eB W0 w q:=⟨hV,hb,hq⟩
theorem adw (s:List UInt8) (w:World) (hV:Vars w) (hl:s.length≤1000000) (h1:Lib.validD s=false) :
  Calls prog 87 #[str s] w fun e w'=>e=.returned (fC (Tm.one s))∧Below w.heap.size w w':=by
 have HN:=hid (show Tm.one s=none by unfold Tm.one;rw [if_pos h1]);have VA:=hid (fun w h=>iT s w aj h);have HB1:=hid (show Below w.heap.size w (w.alloc (.cells z9.toArray 67)) from (Below.refl _ _).alloc ay _);have HT1:=hid (ak.new w z9 67);have HV:=hid hV;rw [h1] at VA;clear hV h1;go_enter func87,ntmps87;go_wp2_with fail
 refine (VA.out _ (HV.out.keep HB1.out).1).mono ?_;rintro e w2 ⟨rfl,hb2⟩;have HB2:=hid (aG HB1.out hb2);have HT2:=hid (HT1.out.keep hb2);clear hb2;have g0:=HT2.out.cell (i:=0) rfl;have g1:=HT2.out.cell (i:=1) rfl;have g2:=HT2.out.cell (i:=2) rfl;have g3:=HT2.out.cell (i:=3) rfl;have g4:=HT2.out.cell (i:=4) rfl;have g5:=HT2.out.cell (i:=5) rfl;have g6:=HT2.out.cell (i:=6) rfl;have g7:=HT2.out.cell (i:=7) rfl;have g8:=HT2.out.cell (i:=8) rfl;have k0:=HT2.out.free 0;have k1:=HT2.out.free 1;have k2:=HT2.out.free 2;have k3:=HT2.out.free 3;have k4:=HT2.out.free 4;have k5:=HT2.out.free 5;have k6:=HT2.out.free 6;have k7:=HT2.out.free 7;have k8:=HT2.out.free 8;go_wp2;exact bodyPost_ret (v:=fC none) (kL rfl rfl rfl (((((((((HT2.out.set 0 (.int .i64 0)).set 1 (.string ⟨#[]⟩)).set 2 (.string ⟨#[]⟩)).set 3 (.int .i64 0)).set 4 (.string ⟨#[]⟩)).set 5 (.string ⟨#[]⟩)).set 6 (.int .i64 0)).set 7 (.string ⟨#[]⟩)).set 8 (.string ⟨#[]⟩)) results87) rfl ⟨by rw [HN.out],(aK (aK (aK (aK (aK (aK (aK (aK (aK HB2.out ay 0 (.int .i64 0)) ay 1 (.string ⟨#[]⟩)) ay 2 (.string ⟨#[]⟩)) ay 3 (.int .i64 0)) ay 4 (.string ⟨#[]⟩)) ay 5 (.string ⟨#[]⟩)) ay 6 (.int .i64 0)) ay 7 (.string ⟨#[]⟩)) ay 8 (.string ⟨#[]⟩))⟩
theorem adx (s:List UInt8) (w:World) (hV:Vars w) (hl:s.length≤1000000) (h1:Lib.validD s=true) (hu:s.dropWhile bE=[]) :
  Calls prog 87 #[str s] w fun e w'=>e=.returned (fC (Tm.one s))∧Below w.heap.size w w':=by
 have HN:=hid (show Tm.one s=some none by unfold Tm.one;rw [if_neg (by rw [h1];decide),hu];rfl);have VA:=hid (fun w h=>iT s w aj h);have HB1:=hid (show Below w.heap.size w (w.alloc (.cells z9.toArray 67)) from (Below.refl _ _).alloc ay _);have HT1:=hid (ak.new w z9 67);have HV:=hid hV;rw [h1] at VA;have HU:=hid hu;clear hV h1 hu;go_enter func87,ntmps87;go_wp2_with fail
 refine (VA.out _ (HV.out.keep HB1.out).1).mono ?_;rintro e w2 ⟨rfl,hb2⟩;have HB2:=hid (aG HB1.out hb2);have HT2:=hid (HT1.out.keep hb2);clear hb2;have hlt2:w.heap.size<w2.heap.size:=HT2.out.lt;obtain ⟨q,hq⟩:=aA w2.heap.size;have HR3:=hid (show Rd (w2.alloc (.cells #[str s,.bool false] 202)) q s false from ak.new' hq.symm rfl);have HB3:=hid (HB2.out.alloc HB2.out.size (.cells #[str s,.bool false] 202));have HT3:=hid (HT2.out.alloc (.cells #[str s,.bool false] 202));have l9:w.heap.size<q:=aj;have BL:=hid (h_ q s false _ HR3.out aj);rw [hq,HU.out] at BL;go_wp2_with fail
 refine BL.out.mono ?_;rintro e w4 ⟨rfl,hr4,hb4⟩;rw [←hq] at hr4 hb4;have aP:=hid (hb4.into HB3.out aj);have aT:=hid (But.blk HT3.out hb4 aj);have HR4:=hid hr4;clear hr4 hb4 BL HR3 HB3 HT3;subst hq;obtain ⟨c0,c1,f0,f1⟩:=HR4.out.cells;have g0:=aT.out.cell (i:=0) rfl;have g1:=aT.out.cell (i:=1) rfl;have g2:=aT.out.cell (i:=2) rfl;have g3:=aT.out.cell (i:=3) rfl;have g4:=aT.out.cell (i:=4) rfl;have g5:=aT.out.cell (i:=5) rfl;have g6:=aT.out.cell (i:=6) rfl;have g7:=aT.out.cell (i:=7) rfl;have g8:=aT.out.cell (i:=8) rfl;have k0:=aT.out.free 0;have k1:=aT.out.free 1;have k2:=aT.out.free 2;have k3:=aT.out.free 3;have k4:=aT.out.free 4;have k5:=aT.out.free 5;have k6:=aT.out.free 6;have k7:=aT.out.free 7;have k8:=aT.out.free 8;go_wp2;exact bodyPost_ret (v:=fC (some none)) (kL rfl rfl rfl (((((((((aT.out.set 0 (.int .i64 0)).set 1 (.string ⟨#[]⟩)).set 2 (.string ⟨#[]⟩)).set 3 (.int .i64 0)).set 4 (.string ⟨#[]⟩)).set 5 (.string ⟨#[]⟩)).set 6 (.int .i64 0)).set 7 (.string ⟨#[]⟩)).set 8 (.string ⟨#[]⟩)) results87) rfl ⟨by rw [HN.out],(aK (aK (aK (aK (aK (aK (aK (aK (aK aP.out ay 0 (.int .i64 0)) ay 1 (.string ⟨#[]⟩)) ay 2 (.string ⟨#[]⟩)) ay 3 (.int .i64 0)) ay 4 (.string ⟨#[]⟩)) ay 5 (.string ⟨#[]⟩)) ay 6 (.int .i64 0)) ay 7 (.string ⟨#[]⟩)) ay 8 (.string ⟨#[]⟩))⟩
theorem ady (s:List UInt8) (w:World) (hV:Vars w) (hl:s.length≤1000000) (h1:Lib.validD s=true) (d:UInt8) (u:List UInt8) (hu:s.dropWhile bE=d::u) (hd:d=35) :
  Calls prog 87 #[str s] w fun e w'=>e=.returned (fC (Tm.one s))∧Below w.heap.size w w':=by
 have HN:=hid (show Tm.one s=some none by unfold Tm.one;rw [if_neg (by rw [h1];decide),hu,hd];rfl);have VA:=hid (fun w h=>iT s w aj h);have HB1:=hid (show Below w.heap.size w (w.alloc (.cells z9.toArray 67)) from (Below.refl _ _).alloc ay _);have HT1:=hid (ak.new w z9 67);have HV:=hid hV;rw [h1] at VA;have HU:=hid hu;have iF:u.length+1≤s.length:=by have:=kE bE s;rw [hu] at this;simpa using this
 clear hV h1 hu;go_enter func87,ntmps87;go_wp2_with fail
 refine (VA.out _ (HV.out.keep HB1.out).1).mono ?_;rintro e w2 ⟨rfl,hb2⟩;have HB2:=hid (aG HB1.out hb2);have HT2:=hid (HT1.out.keep hb2);clear hb2;have hlt2:w.heap.size<w2.heap.size:=HT2.out.lt;obtain ⟨q,hq⟩:=aA w2.heap.size;have HR3:=hid (show Rd (w2.alloc (.cells #[str s,.bool false] 202)) q s false from ak.new' hq.symm rfl);have HB3:=hid (HB2.out.alloc HB2.out.size (.cells #[str s,.bool false] 202));have HT3:=hid (HT2.out.alloc (.cells #[str s,.bool false] 202));have l9:w.heap.size<q:=aj;have BL:=hid (h_ q s false _ HR3.out aj);rw [hq,HU.out] at BL;go_wp2_with fail
 refine BL.out.mono ?_;rintro e w4 ⟨rfl,hr4,hb4⟩;rw [←hq] at hr4 hb4;have aP:=hid (hb4.into HB3.out aj);have aT:=hid (But.blk HT3.out hb4 aj);have HR4:=hid hr4;clear hr4 hb4 BL HR3 HB3 HT3;subst hq;obtain ⟨c0,c1,f0,f1⟩:=HR4.out.cells;have hem:((d::u:List UInt8)==[])=false:=rfl;have iQ:=hid (dU w2.heap.size (d::u) [35] false w4 HR4.out (by simp only [List.length_cons];omega) aC);rw [show decide (((d::u):List UInt8).take ([35]:List UInt8).length=[35])=true from by subst hd;rfl] at iQ;go_wp2_with fail
 refine iQ.out.mono ?_;rintro e w5 ⟨rfl,rfl⟩;have g0:=aT.out.cell (i:=0) rfl;have g1:=aT.out.cell (i:=1) rfl;have g2:=aT.out.cell (i:=2) rfl;have g3:=aT.out.cell (i:=3) rfl;have g4:=aT.out.cell (i:=4) rfl;have g5:=aT.out.cell (i:=5) rfl;have g6:=aT.out.cell (i:=6) rfl;have g7:=aT.out.cell (i:=7) rfl;have g8:=aT.out.cell (i:=8) rfl;have k0:=aT.out.free 0;have k1:=aT.out.free 1;have k2:=aT.out.free 2;have k3:=aT.out.free 3;have k4:=aT.out.free 4;have k5:=aT.out.free 5;have k6:=aT.out.free 6;have k7:=aT.out.free 7;have k8:=aT.out.free 8;go_wp2;exact bodyPost_ret (v:=fC (some none)) (kL rfl rfl rfl (((((((((aT.out.set 0 (.int .i64 0)).set 1 (.string ⟨#[]⟩)).set 2 (.string ⟨#[]⟩)).set 3 (.int .i64 0)).set 4 (.string ⟨#[]⟩)).set 5 (.string ⟨#[]⟩)).set 6 (.int .i64 0)).set 7 (.string ⟨#[]⟩)).set 8 (.string ⟨#[]⟩)) results87) rfl ⟨by rw [HN.out],(aK (aK (aK (aK (aK (aK (aK (aK (aK aP.out ay 0 (.int .i64 0)) ay 1 (.string ⟨#[]⟩)) ay 2 (.string ⟨#[]⟩)) ay 3 (.int .i64 0)) ay 4 (.string ⟨#[]⟩)) ay 5 (.string ⟨#[]⟩)) ay 6 (.int .i64 0)) ay 7 (.string ⟨#[]⟩)) ay 8 (.string ⟨#[]⟩))⟩
theorem adz (s:List UInt8) (w:World) (hV:Vars w) (hl:s.length≤1000000) (h1:Lib.validD s=true) (d:UInt8) (u:List UInt8) (hu:s.dropWhile bE=d::u) (hd:d≠35) (h3:rest (dD (rest (dD (rest (dD (some (d::u)))))))=none) :
  Calls prog 87 #[str s] w fun e w'=>e=.returned (fC (Tm.one s))∧Below w.heap.size w w':=by
 have HN:=hid (show Tm.one s=none by exact adv h1 (show Tm.fF (s.dropWhile bE)=false by rw [hu];unfold Tm.fF;simp [hd]) (by rw [hu];exact h3));have VA:=hid (fun w h=>iT s w aj h);have HB1:=hid (show Below w.heap.size w (w.alloc (.cells z9.toArray 67)) from (Below.refl _ _).alloc ay _);have HT1:=hid (ak.new w z9 67);have HV:=hid hV;rw [h1] at VA;have HU:=hid hu;have iF:u.length+1≤s.length:=by have:=kE bE s;rw [hu] at this;simpa using this
 have H3:=hid h3;clear hV h1 hu h3;go_enter func87,ntmps87;go_wp2_with fail
 refine (VA.out _ (HV.out.keep HB1.out).1).mono ?_;rintro e w2 ⟨rfl,hb2⟩;have HB2:=hid (aG HB1.out hb2);have HT2:=hid (HT1.out.keep hb2);clear hb2;have hlt2:w.heap.size<w2.heap.size:=HT2.out.lt;obtain ⟨q,hq⟩:=aA w2.heap.size;have HR3:=hid (show Rd (w2.alloc (.cells #[str s,.bool false] 202)) q s false from ak.new' hq.symm rfl);have HB3:=hid (HB2.out.alloc HB2.out.size (.cells #[str s,.bool false] 202));have HT3:=hid (HT2.out.alloc (.cells #[str s,.bool false] 202));have l9:w.heap.size<q:=aj;have BL:=hid (h_ q s false _ HR3.out aj);rw [hq,HU.out] at BL;go_wp2_with fail
 refine BL.out.mono ?_;rintro e w4 ⟨rfl,hr4,hb4⟩;rw [←hq] at hr4 hb4;have aP:=hid (hb4.into HB3.out aj);have aT:=hid (But.blk HT3.out hb4 aj);have HR4:=hid hr4;clear hr4 hb4 BL HR3 HB3 HT3;subst hq;obtain ⟨c0,c1,f0,f1⟩:=HR4.out.cells;have hem:((d::u:List UInt8)==[])=false:=rfl;have iQ:=hid (dU w2.heap.size (d::u) [35] false w4 HR4.out (by simp only [List.length_cons];omega) aC);rw [show decide (((d::u):List UInt8).take ([35]:List UInt8).length=[35])=false from by exact decide_eq_false (by simpa using hd)] at iQ;go_wp2_with fail
 refine iQ.out.mono ?_;rintro e w5 ⟨rfl,rfl⟩;obtain ⟨o1,ho1⟩:=aA (rest (dD (some (d::u))));obtain ⟨o2,ho2⟩:=aA (rest (dD o1));obtain ⟨o3,ho3⟩:=aA (rest (dD o2));have hl0:∀ z,some (d::u)=some z→z.length≤10000000:=by intro z hz;cases hz;simp only [List.length_cons];omega
 have hl1:∀ z,o1=some z→z.length≤10000000:=by rw [ho1];exact nk hl0
 have hl2:∀ z,o2=some z→z.length≤10000000:=by rw [ho2];exact nk hl1
 have T1:=hid (fun (W:World) (hb:Below w.heap.size w W) (hr:eZ W w2.heap.size (some (d::u)))=>jA w2.heap.size (some (d::u)) W w (eB.mk' HV.out hb aj) hl0 hr);have T2:=hid (fun (W:World) (hb:Below w.heap.size w W) (hr:eZ W w2.heap.size o1)=>jA w2.heap.size o1 W w (eB.mk' HV.out hb aj) hl1 hr);have T3:=hid (fun (W:World) (hb:Below w.heap.size w W) (hr:eZ W w2.heap.size o2)=>jA w2.heap.size o2 W w (eB.mk' HV.out hb aj) hl2 hr);rw [←ho1] at T1;rw [←ho2] at T2;rw [←ho3] at T3;have nZ:=hid ho1;have fQ:=hid ho2;have gW:=hid ho3;clear ho1 ho2 ho3 hl0 hl1 hl2 c0 c1 f0 f1;go_wp2_with fail
 refine (T1.out _ aP.out HR4.out).mono ?_;rintro _ w6 ⟨⟨k1,t1,x1,rfl,hx1⟩,gH,hb6⟩;have kX:=hid hx1;have aO:=hid (show Below w.heap.size w (aU w6 k1 t1 x1 0 [] [] 0 [] []) from (hb6.into aP.out aj).alloc (hb6.into aP.out aj).size _);have bC:=hid (show ak (aU w6 k1 t1 x1 0 [] [] 0 [] []) w.heap.size z9 67 from (But.blk aT.out hb6 aj).alloc _);have aJ:=hid (fT w6 k1 t1 x1 0 [] [] 0 [] []);have bN:=hid (show eZ (aU w6 k1 t1 x1 0 [] [] 0 [] []) w2.heap.size o1 from gH.keep ((Below.refl _ _).alloc ay _));have gP:=hb6.size;have hq4:w2.heap.size<w4.heap.size:=HR4.out.lt;clear hb6 gH hx1;go_wp2_with fail
 refine (T2.out _ aO.out bN.out).mono ?_;rintro _ w7 ⟨⟨k2,t2,x2,rfl,hx2⟩,jN,d_⟩;have fO:=hid hx2;have bF:=hid (d_.into aO.out aj);have bW:=hid (But.blk bC.out d_ aj);have aZ:=hid (But.blk aJ.out d_ aj);have eP:=hid jN;clear d_ jN hx2;have j3:=aZ.out.cell (i:=3) rfl;have j4:=aZ.out.cell (i:=4) rfl;have j5:=aZ.out.cell (i:=5) rfl;have m3:=aZ.out.free 3;have m4:=aZ.out.free 4;have m5:=aZ.out.free 5;have hpw:w.heap.size≤w6.heap.size:=aj;have dR:w2.heap.size≠w6.heap.size:=aj;have hwp:w.heap.size≠w6.heap.size:=aj;have aI:=hid (aK (aK (aK bF.out hpw 3 (.int .i64 k2)) hpw 4 (str t2)) hpw 5 (str x2));have dh:=hid (((bW.out.other hwp 3 (.int .i64 k2)).other hwp 4 (str t2)).other hwp 5 (str x2));have bU:=hid (show ak (((w7.setCell ⟨w6.heap.size,3,none⟩ (.int .i64 k2)).setCell ⟨w6.heap.size,4,none⟩ (str t2)).setCell ⟨w6.heap.size,5,none⟩ (str x2)) w6.heap.size [.int .i64 k1,str t1,str x1,.int .i64 k2,str t2,str x2,.int .i64 0,str [],str []] 67 from ((aZ.out.set 3 (.int .i64 k2)).set 4 (str t2)).set 5 (str x2));have d9:=hid (((eP.out.other dR 3 (.int .i64 k2)).other dR 4 (str t2)).other dR 5 (str x2));go_wp2_with fail
 refine (T3.out _ aI.out d9.out).mono ?_;rintro _ w9 ⟨⟨k3,t3,x3,rfl,hx3⟩,dL,aV⟩;have jI:=hid hx3;have aF:=hid (aV.into aI.out aj);have aQ:=hid (But.blk dh.out aV aj);have aY:=hid (But.blk bU.out aV aj);have eY:=hid dL;clear aV dL hx3 j3 j4 j5 m3 m4 m5;have j6:=aY.out.cell (i:=6) rfl;have j7:=aY.out.cell (i:=7) rfl;have j8:=aY.out.cell (i:=8) rfl;have m6:=aY.out.free 6;have m7:=aY.out.free 7;have m8:=aY.out.free 8;have HB0:=hid (aK (aK (aK aF.out hpw 6 (.int .i64 k3)) hpw 7 (str t3)) hpw 8 (str x3));have HT0:=hid (((aQ.out.other hwp 6 (.int .i64 k3)).other hwp 7 (str t3)).other hwp 8 (str x3));have dw:=hid (show ak (((w9.setCell ⟨w6.heap.size,6,none⟩ (.int .i64 k3)).setCell ⟨w6.heap.size,7,none⟩ (str t3)).setCell ⟨w6.heap.size,8,none⟩ (str x3)) w6.heap.size [.int .i64 k1,str t1,str x1,.int .i64 k2,str t2,str x2,.int .i64 k3,str t3,str x3] 67 from ((aY.out.set 6 (.int .i64 k3)).set 7 (str t3)).set 8 (str x3));have dZ:=hid (((eY.out.other dR 6 (.int .i64 k3)).other dR 7 (str t3)).other dR 8 (str x3));have HE:=hid (show o3=none by rw [gW.out,fQ.out,nZ.out];exact H3.out);have dZ:=hid (show Rd (((w9.setCell ⟨w6.heap.size,6,none⟩ (.int .i64 k3)).setCell ⟨w6.heap.size,7,none⟩ (str t3)).setCell ⟨w6.heap.size,8,none⟩ (str x3)) w2.heap.size [] true by have:=dZ.out;rw [HE.out] at this;exact this);go_wp2_with (show wpList _ _ _ (_::_::_::_::_::_::_::_::_) _ (((w9.setCell ⟨w6.heap.size,6,none⟩ (.int .i64 k3)).setCell ⟨w6.heap.size,7,none⟩ (str t3)).setCell ⟨w6.heap.size,8,none⟩ (str x3));obtain ⟨w0,hw0⟩:=aA ((((w9.setCell ⟨w6.heap.size,6,none⟩ (.int .i64 k3)).setCell ⟨w6.heap.size,7,none⟩ (str t3)).setCell ⟨w6.heap.size,8,none⟩ (str x3)));rw [←hw0] at HB0 HT0 dw dZ ⊢;clear hw0;have s1:=dZ.out.cell (i:=1) rfl;have g0:=HT0.out.cell (i:=0) rfl;have k0:=HT0.out.free 0;have g1:=HT0.out.cell (i:=1) rfl;have k1:=HT0.out.free 1;have g2:=HT0.out.cell (i:=2) rfl;have k2:=HT0.out.free 2;have g3:=HT0.out.cell (i:=3) rfl;have k3:=HT0.out.free 3;have g4:=HT0.out.cell (i:=4) rfl;have k4:=HT0.out.free 4;have g5:=HT0.out.cell (i:=5) rfl;have k5:=HT0.out.free 5;have g6:=HT0.out.cell (i:=6) rfl;have k6:=HT0.out.free 6;have g7:=HT0.out.cell (i:=7) rfl;have k7:=HT0.out.free 7;have g8:=HT0.out.cell (i:=8) rfl;have k8:=HT0.out.free 8)
 exact bodyPost_ret (v:=fC none) (kL rfl rfl rfl (((((((((HT0.out.set 0 (.int .i64 0)).set 1 (.string ⟨#[]⟩)).set 2 (.string ⟨#[]⟩)).set 3 (.int .i64 0)).set 4 (.string ⟨#[]⟩)).set 5 (.string ⟨#[]⟩)).set 6 (.int .i64 0)).set 7 (.string ⟨#[]⟩)).set 8 (.string ⟨#[]⟩)) results87) rfl ⟨by rw [HN.out],(aK (aK (aK (aK (aK (aK (aK (aK (aK HB0.out ay 0 (.int .i64 0)) ay 1 (.string ⟨#[]⟩)) ay 2 (.string ⟨#[]⟩)) ay 3 (.int .i64 0)) ay 4 (.string ⟨#[]⟩)) ay 5 (.string ⟨#[]⟩)) ay 6 (.int .i64 0)) ay 7 (.string ⟨#[]⟩)) ay 8 (.string ⟨#[]⟩))⟩
end Go.Proofs.YtjaebndajhppgaaGreatDoor
