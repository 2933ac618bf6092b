/-SoComp-/
import Derived.Test.YtjaebndajhppgaaGreatDoorMnGSo1
import Derived.Test.YtjaebndajhppgaaGreatDoorMnGRg5
import Derived.Laws.StructEq
set_option linter.unusedVariables false
set_option linter.unusedSimpArgs false
set_option maxRecDepth 100000
set_option maxHeartbeats 4000000
namespace Go.Proofs.YtjaebndajhppgaaGreatDoor
open Go.ChangeShapes Go.WideShapes Go.ChangeAt Go.RowKit Go.Sort
theorem Fa (a b:T3) (w:World):(binOp .eql 61 (.agg #[.int .i64 (a.1:Nat),str a.2.1,str a.2.2]) (.agg #[.int .i64 (b.1:Nat),str b.2.1,str b.2.2])).run Tryz.prog w=.ok (.bool (decide (a=b))) w:=by
 obtain ⟨k,t,x⟩:=a;obtain ⟨k2,u,y⟩:=b;by_cases h1:k=k2 <;> by_cases h2:t=u <;> by_cases h3:x=y;all_goals
  simp [go_sem,h1,h2,h3] <;> omega
theorem Zk (a b:T3) (w:World):(binOp .neq 61 (.agg #[.int .i64 (a.1:Nat),str a.2.1,str a.2.2]) (.agg #[.int .i64 (b.1:Nat),str b.2.1,str b.2.2])).run Tryz.prog w=.ok (.bool (!decide (a=b))) w:=by
 obtain ⟨k,t,x⟩:=a;obtain ⟨k2,u,y⟩:=b;by_cases h1:k=k2 <;> by_cases h2:t=u <;> by_cases h3:x=y;all_goals
  simp [go_sem,h1,h2,h3] <;> omega
def jo (w:World) (b:Nat) (E:List T3):Prop:=∀ i (h:i<E.length) c,c<3→w.cell? ⟨b,i*3+c,none⟩=(bG E[i])[c]?∧w.frozen? ⟨b,i*3+c,none⟩=false
theorem jo.at {w:World} {b:Nat} {E:List T3} (h:jo w b E) {i:Nat} (hi:i<E.length) {a:T3} (ha:E[i]=a) :
  w.cell? ⟨b,i*3,none⟩=some (.int .i64 (a.1:Nat))∧w.cell? ⟨b,i*3+1,none⟩=some (str a.2.1)∧w.cell? ⟨b,i*3+2,none⟩=some (str a.2.2):=by subst ha;exact ⟨(h i hi 0 (by omega)).1,(h i hi 1 (by omega)).1,(h i hi 2 (by omega)).1⟩
theorem jo.fz {w:World} {b:Nat} {E:List T3} (h:jo w b E) {i:Nat} (hi:i<E.length) :
  w.frozen? ⟨b,i*3,none⟩=false∧w.frozen? ⟨b,i*3+1,none⟩=false∧w.frozen? ⟨b,i*3+2,none⟩=false:=
 ⟨(h i hi 0 (by omega)).2,(h i hi 1 (by omega)).2,(h i hi 2 (by omega)).2⟩
theorem jo.drewN {w:World} {b:Nat} {E:List T3} (h:jo w b E) (n:Nat):jo (w.drewN n) b E:=h
theorem Zl {i j:Nat} (b:Nat) (h:i≠j):(⟨b,i,none⟩:Addr)≠⟨b,j,none⟩:=fun e=>h (by cases e;rfl)
theorem og {w:World} {b i j:Nat} {u:Value} (h:i≠j):(w.setCell ⟨b,i,none⟩ u).cell? ⟨b,j,none⟩=w.cell? ⟨b,j,none⟩:=World.cell?_setCell_other w _ _ u (Zl b h)
theorem jo.set {w:World} {b k:Nat} {E:List T3} (h:jo w b E) (hk:k<E.length) (a:T3) :
  jo (((w.setCell ⟨b,k*3,none⟩ (.int .i64 (a.1:Nat))).setCell ⟨b,k*3+1,none⟩ (str a.2.1)).setCell ⟨b,k*3+2,none⟩ (str a.2.2)) b (E.set k a):=by intro i hi c hc;rw [List.length_set] at hi;obtain ⟨h1,h2⟩:=h i hi c hc;refine ⟨?_,by simp only [World.frozen?_setCell];exact h2⟩;by_cases e:k=i;{subst e;rw [List.getElem_set_self];obtain ⟨a0,a1,a2⟩:=h.at hk rfl;rcases Rg.c3 hc with rfl | rfl | rfl;{refine (og (by omega)).trans ((og (by omega)).trans ?_);exact World.cell?_setCell_same _ _ _ a0};{refine (og (by omega)).trans ?_;exact World.cell?_setCell_same _ _ _ (u:=str E[k].2.1) ((og (by omega)).trans a1)};{exact World.cell?_setCell_same _ _ _ (u:=str E[k].2.2) ((og (by omega)).trans ((og (by omega)).trans a2))}};{rw [List.getElem_set_ne e];exact (og (by omega)).trans ((og (by omega)).trans ((og (by omega)).trans h1))}
theorem jo.terms {w:World} {b cap n:Nat} {E F:List T3} (h:jo w b E) (hF:F=E.take n) (hn:n≤E.length) (hc:E.length≤cap) (hm:cap≤maxLen):bC w (.slice (some ⟨b,0,none⟩) n cap) F:=by
 subst hF;have hl:(E.take n).length=n:=by rw [List.length_take];omega
 refine ⟨some ⟨b,0,none⟩,cap,by rw [hl],by omega,hm,(fun h=>by cases h),Or.inr ⟨b,0,rfl,fun i hi c hc=>?_⟩⟩;rw [hl] at hi;rw [List.getElem_take,Nat.zero_add];exact (h i (by omega) c hc).1
def kJ (E A:List T3) (m k:Nat):Prop:=A.length=E.length∧A.take k=So.cp E m∧k=(So.cp E m).length∧∀ j,m≤j+1→A[j]?=E[j]?
theorem kJ.start {E:List T3} {m:Nat} (hm:m≤E.length) (hd:∀ i,0<i→i<m→E[i]?≠E[i-1]?):kJ E E m m:=by have e:=So.EP m hm hd;exact ⟨rfl,e.symm,by rw [e,List.length_take];omega,fun j _=>rfl⟩
theorem kJ.skip {E A:List T3} {m k:Nat} (h:kJ E A m k) (hm:0<m) (he:E[m]?=E[m-1]?):kJ E A (m+1) k:=by obtain ⟨h1,h2,h3,h4⟩:=h;have e:=So.EO hm he;exact ⟨h1,by rw [e];exact h2,by rw [e];exact h3,fun j hj=>h4 j (by omega)⟩
theorem kJ.keep {E A:List T3} {m k:Nat} (h:kJ E A m k) (hk:k<m) (hm:m<E.length) (hne:E[m]?≠E[m-1]?) {a:T3} (ha:E[m]=a):kJ E (A.set k a) (m+1) (k+1):=by obtain ⟨h1,h2,h3,h4⟩:=h;have e:=So.Ar hm (.inr hne);subst ha;refine ⟨by rw [List.length_set];exact h1,?_,by rw [e,List.length_append,←h3];rfl,fun j hj=>?_⟩;{rw [e,←h2,List.take_succ_eq_append_getElem (by rw [List.length_set];omega),List.take_set_of_le (Nat.le_refl _),List.getElem_set_self]};{rw [List.getElem?_set_ne (by omega)];exact h4 j (by omega)}
theorem kJ.le {E A:List T3} {m k:Nat} (h:kJ E A m k):k≤m:=by obtain ⟨_,_,h3,_⟩:=h;rw [h3];exact So.MZ E m
theorem Zm {w:World} (b:Nat):∀ (vs:List Value) (o:Nat),Off b w (w.setCells b o vs):=by
 intro vs;induction vs generalizing w with
 | nil=>intro o;exact Off.refl b w
 | cons v vs ih=>intro o;exact ((Off.refl b w).setCell v).trans (ih (o+1))
theorem Zn {w:World} (b o n c:Nat) (hn:0<n) (hc:∀ j,j<n*3→(w.cell? ⟨b,o+j,none⟩).isSome=true) (hf:∀ j,j<n*3→w.frozen? ⟨b,o+j,none⟩=false) :
  ∃ vs:List Value,(∀ ty,(Builtin.clear_ #[62] ty #[.slice (some ⟨b,o,none⟩) n c]).run Tryz.prog w=.ok (.tuple #[]) (w.setCells b o vs))∧vs.length=n*3:=by
 obtain ⟨vs,hvs⟩:∃ vs,vs=(Builtin.zeroCells (Value.agg #[.int .i64 0,.string ⟨#[]⟩,.string ⟨#[]⟩]).cells n).toList:=⟨_,rfl⟩;have hl:vs.length=n*3:=by rw [hvs];simp [Builtin.zeroCells,Value.cells]
 have h1:∀ v∈vs,v.oneCell'=true:=by intro v hv;rw [hvs] at hv;simp only [Builtin.zeroCells,Value.cells,Array.toList_map,List.mem_map] at hv;obtain ⟨j,_,rfl⟩:=hv;rcases Rg.c3 (Nat.mod_lt j (by decide:0<3)) with e | e | e <;> simp [e] <;> rfl
 have hst:=run_storeCells_cells (P:=Tryz.prog) b o vs 0 w (by simpa [hl] using hc) (by simpa [hl] using hf) h1;simp only [Nat.add_zero] at hst;refine ⟨vs,fun ty=>?_,hl⟩;obtain ⟨m,rfl⟩:∃ m,n=m+1:=⟨n-1,by omega⟩;have hz:=Tryz.zeroValue61;simp [Builtin.clear_,run_underlying Tryz.underlying62,hz,←hvs,hst]
theorem Zo (b cap:Nat) (E:List T3) (w:World) (hR:jo w b E) (hcap:E.length≤cap) (hm:cap≤maxLen) (hn:E.length≤1000000) :
  Calls Tryz.prog 129 #[.slice (some ⟨b,0,none⟩) E.length cap] w fun e w'=>e=.returned (.slice (some ⟨b,0,none⟩) (So.cp E E.length).length cap)∧bC w' (.slice (some ⟨b,0,none⟩) (So.cp E E.length).length cap) (So.cp E E.length)∧Off b w w':=by
 obtain ⟨R,hR0⟩:∃ R,R=So.cp E E.length:=⟨_,rfl⟩;have HRR:=hid hR0;rw [←hR0];obtain ⟨n,hn0⟩:∃ n,n=E.length:=⟨_,rfl⟩;have HN:=hid hn0;have HR:=hid hR;have M9:=hid (show (∀ i,0<i→i<n→E[i]?≠E[i-1]?)→∀ q,R.length=n∧bC (w.drewN q) (.slice (some ⟨b,0,none⟩) R.length cap) R∧Off b w (w.drewN q) from fun hd q=>by have e:=So.EP (l:=E) E.length (Nat.le_refl _) (by rw [←hn0];exact hd);rw [hR0,e,List.take_length,←hn0];exact ⟨rfl,(hR.drewN q).terms (n:=n) (by rw [hn0,List.take_length]) (by omega) hcap hm,(Off.refl b w).drewN q⟩);have HCAP:=hid (And.intro hcap hm);rw [←hn0] at hn hcap ⊢;clear hR hm hn0 hR0;by_cases h2:n<2;{have hA:=hid (M9.out (fun i h1 h3=>by omega) 0);have hz:(n:Int)<2:=(by omega);clear h2 hcap hn;go_enter Tryz.func129,Tryz.ntmps129;go_wp2;go_ret;exact ⟨by rw [←hA.out.1];rfl,hA.out.2⟩}
 · have hz:¬ (n:Int)<2:=(by omega);go_enter Tryz.func129,Tryz.ntmps129;go_wp2;go_loopg [3] n (fun g s3 wr=>∃ k q:Nat,1≤k∧k≤n∧n-k≤g∧s3=.int .i64 k∧wr=w.drewN q∧Hid (∀ i,0<i→i<k→E[i]?≠E[i-1]?))
   (case atStart=>exact ⟨1,0,Nat.le_refl _,by omega,by omega,rfl,rfl,fun i h1 h3=>by omega⟩);case round=>
    obtain ⟨k,q,hk1,hk,hg,rfl,rfl,HD⟩:=hrel;by_cases hlt:k<n
    · have hkl:k<E.length:=(by rw [←HN.out];exact hlt);obtain ⟨x,hx⟩:∃ x,E[k]=x:=⟨_,rfl⟩;obtain ⟨y,hy⟩:∃ y,E[k-1]'(by omega)=y:=⟨_,rfl⟩;have HX:=hid (show E[k]?=some x by rw [List.getElem?_eq_getElem hkl,hx]);have HY:=hid (show E[k-1]?=some y by rw [List.getElem?_eq_getElem (by omega),hy]);obtain ⟨c0,c1,c2⟩:=HR.out.at hkl hx;obtain ⟨d0,d1,d2⟩:=HR.out.at (i:=k-1) (by omega) hy;have EQ:=Fa x y;have oh:=hid (show (x=y)↔E[k]?=E[k-1]? by rw [HX.out,HY.out];simp);clear hx hy hkl;by_cases hxy:x=y
      · have hb:decide (x=y)=true:=decide_eq_true hxy;rw [hb] at EQ;have HS:=hid (oh.out.1 hxy);clear hb hxy oh HX HY;(go_wp2_with fail);go_region
        go_wp2;clear c0 c1 c2 d0 d1 d2 EQ;have HST:=hid (show kJ E E (k+1) k from (kJ.start (by rw [←HN.out];omega) HD.out).skip (by omega) HS.out);clear HS;go_loopg [3,5] n (fun g s3 s5 wr=>∃ (kk j q2:Nat) (A:List T3),s3=.int .i64 kk∧s5=.int .i64 j∧1≤j∧k+j≤n∧n-(k+j)≤g∧kk<k+j∧Hid (jo wr b A)∧Hid (Off b w wr)∧Hid (kJ E A (k+j) kk))
        (case atStart=>exact ⟨k,1,q+1,E,rfl,rfl,Nat.le_refl _,by omega,by omega,by omega,HR.out.drewN _,(Off.refl b w).drewN _,HST.out⟩);case round=>
         obtain ⟨kk,j,q2,A,rfl,rfl,h1,hle,hg2,hkk,mg,HO,HC⟩:=hrel;have Ay:A.length=n:=(by rw [HC.out.1,←HN.out]);by_cases hlt2:k+j<n
         · obtain ⟨x2,hx⟩:∃ x,E[k+j]'(by rw [←HN.out];exact hlt2)=x:=⟨_,rfl⟩;obtain ⟨y2,hy⟩:∃ y,E[k+j-1]'(by rw [←HN.out];omega)=y:=⟨_,rfl⟩;have HX:=hid (show E[k+j]?=some x2 by rw [List.getElem?_eq_getElem (by rw [←HN.out];exact hlt2),hx]);have HY:=hid (show E[k+j-1]?=some y2 by rw [List.getElem?_eq_getElem (by rw [←HN.out];omega),hy]);have hax:A[k+j]'(by omega)=x2:=(by have:=HC.out.2.2.2 (k+j) (by omega);rw [HX.out,List.getElem?_eq_getElem (by omega)] at this;exact Option.some.inj this);have M_:A[k+j-1]'(by omega)=y2:=(by have:=HC.out.2.2.2 (k+j-1) (by omega);rw [HY.out,List.getElem?_eq_getElem (by omega)] at this;exact Option.some.inj this);obtain ⟨c0,c1,c2⟩:=mg.out.at (by omega) hax;obtain ⟨d0,d1,d2⟩:=mg.out.at (by omega) M_;rw [show (k+j)*3=k*3+j*3 by omega] at c0 c1 c2;rw [show (k+j-1)*3=k*3+(j-1)*3 by omega] at d0 d1 d2;have NE:=Zk x2 y2;have oh:=hid (show (x2=y2)↔E[k+j]?=E[k+j-1]? by rw [HX.out,HY.out];simp);have lG:=hid hx;clear hx hy hax M_ Ay;by_cases hxy:x2=y2
           · have hb:decide (x2=y2)=true:=decide_eq_true hxy;rw [hb] at NE;have HS:=hid (oh.out.1 hxy);clear hb hxy oh HX HY lG;(go_wp2_with fail);go_region
             go_wp2;go_roundg (n-(k+(j+1)))
             (case measure=>omega);case rel=>exact ⟨kk,j+1,q2+1,A,rfl,by go_num,by omega,by omega,Nat.le_refl _,by omega,mg.out.drewN 1,HO.out.drewN 1,HC.out.skip (by omega) HS.out⟩
           · have hb:decide (x2=y2)=false:=decide_eq_false hxy;rw [hb] at NE;have HS:=hid (fun h=>hxy (oh.out.2 h));have Az:kk<A.length:=(by rw [HC.out.1,←HN.out];omega);obtain ⟨o,ho⟩:∃ o,A[kk]=o:=⟨_,rfl⟩;obtain ⟨e0,e1,e2⟩:=mg.out.at Az ho;obtain ⟨f0,f1,f2⟩:=mg.out.fz Az;have HK:=hid Az;clear hb hxy oh HX HY Az ho;(go_wp2_with fail);go_region
             go_wp2;go_roundg (n-(k+(j+1)))
             (case measure=>omega);case rel=>exact ⟨kk+1,j+1,q2+1,A.set kk x2,by go_num,by go_num,by omega,by omega,Nat.le_refl _,by omega,mg.out.set HK.out x2,(((HO.out.setCell _).setCell _).setCell _).drewN 1,HC.out.keep hkk (by rw [←HN.out];exact hlt2) HS.out lG.out⟩
         {have hkj:k+j=n:=(by omega);have Na:=HC.out;rw [show k+j=E.length by rw [←HN.out];exact hkj] at Na;obtain ⟨q1,q2',q3,_⟩:=Na;have HT:=hid (fun (W:World) (h:jo W b (A.take kk))=>(show bC W (.slice (some ⟨b,0,none⟩) kk cap) R from by have e:=HRR.out;rw [←q2'] at e;exact h.terms (n:=kk) (by rw [e,List.take_take,Nat.min_self]) (by rw [List.length_take];omega) (by rw [List.length_take];have:=HCAP.out.1;omega) HCAP.out.2));have HL:=hid (show R.length=kk by rw [HRR.out];exact q3.symm);obtain ⟨vs,hcl,hvl⟩:∃ vs:List Value,(∀ ty,(Builtin.clear_ #[62] ty #[.slice (some ⟨b,kk*3,none⟩) (n-kk) (cap-kk)]).run Tryz.prog wr=.ok (.tuple #[]) (wr.setCells b (kk*3) vs))∧vs.length=(n-kk)*3:=(by have hc:∀ j,j<(n-kk)*3→(wr.cell? ⟨b,kk*3+j,none⟩).isSome=true∧wr.frozen? ⟨b,kk*3+j,none⟩=false:=(by intro j hj;obtain ⟨a1,a2⟩:=mg.out (kk+j / 3) (by omega) (j % 3) (Nat.mod_lt _ (by decide));rw [show (kk+j / 3)*3+j % 3=kk*3+j by omega] at a1 a2;exact ⟨by rw [a1,wW _ _ (Nat.mod_lt _ (by decide))];rfl,a2⟩);exact Zn b (kk*3) (n-kk) (cap-kk) (by omega) (fun j hj=>(hc j hj).1) fun j hj=>(hc j hj).2);have Zp:=hid (HT.out (wr.setCells b (kk*3) vs) (by intro i hi c hc;rw [List.length_take] at hi;obtain ⟨a1,a2⟩:=mg.out i (by omega) c hc;rw [List.getElem_take,World.frozen?_setCells];refine ⟨?_,a2⟩;rw [←a1];exact World.cell?_setCells_out b vs _ wr ⟨b,i*3+c,none⟩ (fun _ _=>.inl (by show i*3+c<kk*3;omega))));have Zq:=hid (HO.out.trans (Zm (w:=wr) b vs (kk*3)));clear hvl q1 q2' q3;go_wp2;go_ret;exact ⟨by rw [HL.out];rfl,by rw [HL.out];exact Zp.out,Zq.out⟩}
      · have hb:decide (x=y)=false:=decide_eq_false hxy;rw [hb] at EQ;have HS:=hid (fun h=>hxy (oh.out.2 h));clear hb hxy oh HX HY;(go_wp2_with fail);go_region
        go_wp2;go_roundg (n-(k+1))
        (case measure=>omega);case rel=>exact ⟨k+1,q+1,by omega,by omega,Nat.le_refl _,by go_num,rfl,fun i h1 h3=>by
         by_cases e:i=k;{subst e;exact HS.out}
         · exact HD.out i h1 (by omega)⟩
    {obtain rfl:k=n:=(by omega);have hA:=hid (M9.out HD.out q);go_wp2;go_ret;exact ⟨by rw [←hA.out.1];rfl,hA.out.2⟩}
end Go.Proofs.YtjaebndajhppgaaGreatDoor
