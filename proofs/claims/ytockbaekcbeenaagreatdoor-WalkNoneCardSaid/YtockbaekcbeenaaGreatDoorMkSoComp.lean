/-SoComp-/
import Derived.Test.YtockbaekcbeenaaGreatDoorMkHd1
import Derived.Test.YtockbaekcbeenaaGreatDoorMkGSo1
import Derived.Test.YtockbaekcbeenaaGreatDoorMkGRg5
import Derived.Laws.StructEq
set_option linter.unusedVariables false
set_option linter.unusedSimpArgs false
set_option maxRecDepth 100000
set_option maxHeartbeats 4000000
namespace Go.Proofs.YtockbaekcbeenaaGreatDoor
open Go.Proofs.Tryz
open Go.ChangeShapes Go.WideShapes Go.ChangeAt Go.RowKit Go.Sort
theorem J4 (a b:T3) (w:World):(binOp .eql 63 (.agg #[.int .i64 (a.1:Nat),aA a.2.1,aA a.2.2]) (.agg #[.int .i64 (b.1:Nat),aA b.2.1,aA b.2.2])).run prog w=.ok (.bool (decide (a=b))) w:=by
 obtain ⟨k,t,x⟩:=a;obtain ⟨k2,u,y⟩:=b;by_cases h1:k=k2 <;> by_cases h2:t=u <;> by_cases h3:x=y;all_goals
  simp [go_sem,h1,h2,h3] <;> omega
theorem ab7 (a b:T3) (w:World):(binOp .neq 63 (.agg #[.int .i64 (a.1:Nat),aA a.2.1,aA a.2.2]) (.agg #[.int .i64 (b.1:Nat),aA b.2.1,aA b.2.2])).run prog w=.ok (.bool (!decide (a=b))) w:=by
 obtain ⟨k,t,x⟩:=a;obtain ⟨k2,u,y⟩:=b;by_cases h1:k=k2 <;> by_cases h2:t=u <;> by_cases h3:x=y;all_goals
  simp [go_sem,h1,h2,h3] <;> omega
def kV (w:World) (b:Nat) (E:List T3):Prop:=∀ i (h:i<E.length) c,c<3→w.cell? ⟨b,i*3+c,none⟩=(bW E[i])[c]?∧w.frozen? ⟨b,i*3+c,none⟩=false
theorem kV.at {w:World} {b:Nat} {E:List T3} (h:kV w b E) {i:Nat} (hi:i<E.length) {a:T3} (ha:E[i]=a) :
  w.cell? ⟨b,i*3,none⟩=some (.int .i64 (a.1:Nat))∧w.cell? ⟨b,i*3+1,none⟩=some (aA a.2.1)∧w.cell? ⟨b,i*3+2,none⟩=some (aA a.2.2):=by subst ha;exact ⟨(h i hi 0 ay).1,(h i hi 1 ay).1,(h i hi 2 ay).1⟩
theorem kV.fz {w:World} {b:Nat} {E:List T3} (h:kV w b E) {i:Nat} (hi:i<E.length) :
  w.frozen? ⟨b,i*3,none⟩=false∧w.frozen? ⟨b,i*3+1,none⟩=false∧w.frozen? ⟨b,i*3+2,none⟩=false:=
 ⟨(h i hi 0 ay).2,(h i hi 1 ay).2,(h i hi 2 ay).2⟩
theorem kV.drewN {w:World} {b:Nat} {E:List T3} (h:kV w b E) (n:Nat):kV (w.drewN n) b E:=h
theorem nec {i j:Nat} (b:Nat) (h:i≠j):(⟨b,i,none⟩:Addr)≠⟨b,j,none⟩:=fun e=>h (by cases e;rfl)
theorem rW {w:World} {b i j:Nat} {u:Value} (h:i≠j):(w.setCell ⟨b,i,none⟩ u).cell? ⟨b,j,none⟩=w.cell? ⟨b,j,none⟩:=World.cell?_setCell_other w _ _ u (nec b h)
theorem kV.set {w:World} {b k:Nat} {E:List T3} (h:kV w b E) (hk:k<E.length) (a:T3) :
  kV (((w.setCell ⟨b,k*3,none⟩ (.int .i64 (a.1:Nat))).setCell ⟨b,k*3+1,none⟩ (aA a.2.1)).setCell ⟨b,k*3+2,none⟩ (aA a.2.2)) b (E.set k a):=by intro i hi c hc;rw [List.length_set] at hi;obtain ⟨h1,h2⟩:=h i hi c hc;refine ⟨?_,by simp only [World.frozen?_setCell];exact h2⟩;by_cases e:k=i;{subst e;rw [List.getElem_set_self];obtain ⟨a0,a1,a2⟩:=h.at hk rfl;rcases Rg.c3 hc with rfl | rfl | rfl;{refine (rW ay).trans ((rW ay).trans ?_);exact World.cell?_setCell_same _ _ _ a0};{refine (rW ay).trans ?_;exact World.cell?_setCell_same _ _ _ (u:=aA E[k].2.1) ((rW ay).trans a1)};{exact World.cell?_setCell_same _ _ _ (u:=aA E[k].2.2) ((rW ay).trans ((rW ay).trans a2))}};{rw [List.getElem_set_ne e];exact (rW ay).trans ((rW ay).trans ((rW ay).trans h1))}
theorem kV.terms {w:World} {b cap n:Nat} {E F:List T3} (h:kV w b E) (hF:F=E.take n) (hn:n≤E.length) (hc:E.length≤cap) (hm:cap≤maxLen):bQ w (.slice (some ⟨b,0,none⟩) n cap) F:=by
 subst hF;have hl:(E.take n).length=n:=by rw [List.length_take];omega
 refine ⟨some ⟨b,0,none⟩,cap,by rw [hl],ay,hm,(fun h=>by cases h),Or.inr ⟨b,0,rfl,fun i hi c hc=>?_⟩⟩;rw [hl] at hi;rw [List.getElem_take,Nat.zero_add];exact (h i ay c hc).1
def nK (E A:List T3) (m k:Nat):Prop:=A.length=E.length∧A.take k=So.cp E m∧k=(So.cp E m).length∧∀ j,m≤j+1→A[j]?=E[j]?
theorem nK.start {E:List T3} {m:Nat} (hm:m≤E.length) (hd:∀ i,0<i→i<m→E[i]?≠E[i-1]?):nK E E m m:=by have e:=So.JU m hm hd;exact ⟨rfl,e.symm,by rw [e,List.length_take];omega,fun j _=>rfl⟩
theorem nK.skip {E A:List T3} {m k:Nat} (h:nK E A m k) (hm:0<m) (he:E[m]?=E[m-1]?):nK E A (m+1) k:=by obtain ⟨h1,h2,h3,h4⟩:=h;have e:=So.JR hm he;exact ⟨h1,by rw [e];exact h2,by rw [e];exact h3,fun j hj=>h4 j ay⟩
theorem nK.keep {E A:List T3} {m k:Nat} (h:nK E A m k) (hk:k<m) (hm:m<E.length) (hne:E[m]?≠E[m-1]?) {a:T3} (ha:E[m]=a):nK E (A.set k a) (m+1) (k+1):=by obtain ⟨h1,h2,h3,h4⟩:=h;have e:=So.Fa hm (.inr hne);subst ha;refine ⟨by rw [List.length_set];exact h1,?_,by rw [e,List.length_append,←h3];rfl,fun j hj=>?_⟩;{rw [e,←h2,List.take_succ_eq_append_getElem (by rw [List.length_set];omega),List.take_set_of_le aG,List.getElem_set_self]};{rw [List.getElem?_set_ne ay];exact h4 j ay}
theorem nK.le {E A:List T3} {m k:Nat} (h:nK E A m k):k≤m:=by obtain ⟨_,_,h3,_⟩:=h;rw [h3];exact So.QZ E m
theorem ab8 {w:World} (b:Nat):∀ (vs:List Value) (o:Nat),Off b w (w.setCells b o vs):=by
 intro vs;induction vs generalizing w with
 | nil=>intro o;exact Off.refl b w
 | cons v vs ih=>intro o;exact ((Off.refl b w).setCell v).trans (ih (o+1))
theorem ab9 {w:World} (b o n c:Nat) (hn:0<n) (hc:∀ j,j<n*3→(w.cell? ⟨b,o+j,none⟩).isSome=true) (hf:∀ j,j<n*3→w.frozen? ⟨b,o+j,none⟩=false) :
  ∃ vs:List Value,(∀ ty,(Builtin.clear_ #[52] ty #[.slice (some ⟨b,o,none⟩) n c]).run prog w=.ok (.tuple #[]) (w.setCells b o vs))∧vs.length=n*3:=by
 obtain ⟨vs,hvs⟩:=aC ((Builtin.zeroCells (Value.agg #[.int .i64 0,.string ⟨#[]⟩,.string ⟨#[]⟩]).cells n).toList);have hl:vs.length=n*3:=by rw [hvs];simp [Builtin.zeroCells,Value.cells]
 have h1:∀ v∈vs,v.oneCell'=true:=by intro v hv;rw [hvs] at hv;simp only [Builtin.zeroCells,Value.cells,Array.toList_map,List.mem_map] at hv;obtain ⟨j,_,rfl⟩:=hv;rcases Rg.c3 (Nat.mod_lt j (by decide:0<3)) with e | e | e <;> simp [e] <;> rfl
 have hst:=run_storeCells_cells (P:=prog) b o vs 0 w (by simpa [hl] using hc) (by simpa [hl] using hf) h1;simp only [Nat.add_zero] at hst;refine ⟨vs,fun ty=>?_,hl⟩;obtain ⟨m,rfl⟩:∃ m,n=m+1:=⟨n-1,ay⟩;have hz:=zeroValue63;simp [Builtin.clear_,run_underlying underlying52,hz,←hvs,hst]
theorem ab_ (b cap:Nat) (E:List T3) (w:World) (hR:kV w b E) (hcap:E.length≤cap) (hm:cap≤maxLen) (hn:E.length≤1000000) :
  Calls prog 108 #[.slice (some ⟨b,0,none⟩) E.length cap] w fun e w'=>e=.returned (.slice (some ⟨b,0,none⟩) (So.cp E E.length).length cap)∧bQ w' (.slice (some ⟨b,0,none⟩) (So.cp E E.length).length cap) (So.cp E E.length)∧Off b w w':=by
 obtain ⟨R,hR0⟩:=aC (So.cp E E.length);have HRR:=aj hR0;rw [←hR0];obtain ⟨n,hn0⟩:=aC E.length;have HN:=aj hn0;have HR:=aj hR;have Ra:=aj (show (∀ i,0<i→i<n→E[i]?≠E[i-1]?)→∀ q,R.length=n∧bQ (w.drewN q) (.slice (some ⟨b,0,none⟩) R.length cap) R∧Off b w (w.drewN q) from fun hd q=>by have e:=So.JU (l:=E) E.length aG (by rw [←hn0];exact hd);rw [hR0,e,List.take_length,←hn0];exact ⟨rfl,(hR.drewN q).terms (n:=n) (by rw [hn0,List.take_length]) ay hcap hm,(Off.refl b w).drewN q⟩);have HCAP:=aj (And.intro hcap hm);rw [←hn0] at hn hcap ⊢;clear hR hm hn0 hR0;by_cases h2:n<2;{have hA:=aj (Ra.out (fun i h1 h3=>ay) 0);have hz:(n:Int)<2:=ay;clear h2 hcap hn;go_enter func108,ntmps108;go_wp2;go_ret;exact ⟨by rw [←hA.out.1];rfl,hA.out.2⟩}
 · have hz:¬ (n:Int)<2:=ay;go_enter func108,ntmps108;go_wp2;go_loopg [3] n (fun g s3 wr=>∃ k q:Nat,1≤k∧k≤n∧n-k≤g∧s3=.int .i64 k∧wr=w.drewN q∧Hid (∀ i,0<i→i<k→E[i]?≠E[i-1]?))
   (case atStart=>exact ⟨1,0,Nat.le_refl _,ay,ay,rfl,rfl,fun i h1 h3=>ay⟩);case round=>
    obtain ⟨k,q,hk1,hk,hg,rfl,rfl,HD⟩:=hrel;by_cases hlt:k<n
    · have hkl:k<E.length:=(by rw [←HN.out];exact hlt);obtain ⟨x,hx⟩:∃ x,E[k]=x:=⟨_,rfl⟩;obtain ⟨y,hy⟩:∃ y,E[k-1]'ay=y:=⟨_,rfl⟩;have HX:=aj (show E[k]?=some x by rw [List.getElem?_eq_getElem hkl,hx]);have HY:=aj (show E[k-1]?=some y by rw [List.getElem?_eq_getElem ay,hy]);obtain ⟨c0,c1,c2⟩:=HR.out.at hkl hx;obtain ⟨d0,d1,d2⟩:=HR.out.at (i:=k-1) ay hy;have EQ:=J4 x y;have rX:=aj (show (x=y)↔E[k]?=E[k-1]? by rw [HX.out,HY.out];simp);clear hx hy hkl;by_cases hxy:x=y
      · have hb:decide (x=y)=true:=decide_eq_true hxy;rw [hb] at EQ;have HS:=aj (rX.out.1 hxy);clear hb hxy rX HX HY;(go_wp2_with fail);go_region
        go_wp2;clear c0 c1 c2 d0 d1 d2 EQ;have HST:=aj (show nK E E (k+1) k from (nK.start (by rw [←HN.out];omega) HD.out).skip ay HS.out);clear HS;go_loopg [3,5] n (fun g s3 s5 wr=>∃ (kk j q2:Nat) (A:List T3),s3=.int .i64 kk∧s5=.int .i64 j∧1≤j∧k+j≤n∧n-(k+j)≤g∧kk<k+j∧Hid (kV wr b A)∧Hid (Off b w wr)∧Hid (nK E A (k+j) kk))
        (case atStart=>exact ⟨k,1,q+1,E,rfl,rfl,Nat.le_refl _,ay,ay,ay,HR.out.drewN _,(Off.refl b w).drewN _,HST.out⟩);case round=>
         obtain ⟨kk,j,q2,A,rfl,rfl,h1,hle,hg2,hkk,um,HO,HC⟩:=hrel;have Fv:A.length=n:=(by rw [HC.out.1,←HN.out]);by_cases hlt2:k+j<n
         · obtain ⟨x2,hx⟩:∃ x,E[k+j]'(by rw [←HN.out];exact hlt2)=x:=⟨_,rfl⟩;obtain ⟨y2,hy⟩:∃ y,E[k+j-1]'(by rw [←HN.out];omega)=y:=⟨_,rfl⟩;have HX:=aj (show E[k+j]?=some x2 by rw [List.getElem?_eq_getElem (by rw [←HN.out];exact hlt2),hx]);have HY:=aj (show E[k+j-1]?=some y2 by rw [List.getElem?_eq_getElem (by rw [←HN.out];omega),hy]);have hax:A[k+j]'ay=x2:=(by have:=HC.out.2.2.2 (k+j) ay;rw [HX.out,List.getElem?_eq_getElem ay] at this;exact Option.some.inj this);have Rb:A[k+j-1]'ay=y2:=(by have:=HC.out.2.2.2 (k+j-1) ay;rw [HY.out,List.getElem?_eq_getElem ay] at this;exact Option.some.inj this);obtain ⟨c0,c1,c2⟩:=um.out.at ay hax;obtain ⟨d0,d1,d2⟩:=um.out.at ay Rb;rw [show (k+j)*3=k*3+j*3 by omega] at c0 c1 c2;rw [show (k+j-1)*3=k*3+(j-1)*3 by omega] at d0 d1 d2;have NE:=ab7 x2 y2;have rX:=aj (show (x2=y2)↔E[k+j]?=E[k+j-1]? by rw [HX.out,HY.out];simp);have dZ:=aj hx;clear hx hy hax Rb Fv;by_cases hxy:x2=y2
           · have hb:decide (x2=y2)=true:=decide_eq_true hxy;rw [hb] at NE;have HS:=aj (rX.out.1 hxy);clear hb hxy rX HX HY dZ;(go_wp2_with fail);go_region
             go_wp2;go_roundg (n-(k+(j+1)))
             (case measure=>omega);case rel=>exact ⟨kk,j+1,q2+1,A,rfl,aN,ay,ay,Nat.le_refl _,ay,um.out.drewN 1,HO.out.drewN 1,HC.out.skip ay HS.out⟩
           · have hb:decide (x2=y2)=false:=decide_eq_false hxy;rw [hb] at NE;have HS:=aj (fun h=>hxy (rX.out.2 h));have Fw:kk<A.length:=(by rw [HC.out.1,←HN.out];omega);obtain ⟨o,ho⟩:∃ o,A[kk]=o:=⟨_,rfl⟩;obtain ⟨e0,e1,e2⟩:=um.out.at Fw ho;obtain ⟨f0,f1,f2⟩:=um.out.fz Fw;have HK:=aj Fw;clear hb hxy rX HX HY Fw ho;(go_wp2_with fail);go_region
             go_wp2;go_roundg (n-(k+(j+1)))
             (case measure=>omega);case rel=>exact ⟨kk+1,j+1,q2+1,A.set kk x2,aN,aN,ay,ay,Nat.le_refl _,ay,um.out.set HK.out x2,(((HO.out.setCell _).setCell _).setCell _).drewN 1,HC.out.keep hkk (by rw [←HN.out];exact hlt2) HS.out dZ.out⟩
         {have hkj:k+j=n:=ay;have Rc:=HC.out;rw [show k+j=E.length by rw [←HN.out];exact hkj] at Rc;obtain ⟨q1,q2',q3,_⟩:=Rc;have HT:=aj (fun (W:World) (h:kV W b (A.take kk))=>(show bQ W (.slice (some ⟨b,0,none⟩) kk cap) R from by have e:=HRR.out;rw [←q2'] at e;exact h.terms (n:=kk) (by rw [e,List.take_take,Nat.min_self]) (by rw [List.length_take];omega) (by rw [List.length_take];have:=HCAP.out.1;omega) HCAP.out.2));have HL:=aj (show R.length=kk by rw [HRR.out];exact q3.symm);obtain ⟨vs,hcl,hvl⟩:∃ vs:List Value,(∀ ty,(Builtin.clear_ #[52] ty #[.slice (some ⟨b,kk*3,none⟩) (n-kk) (cap-kk)]).run prog wr=.ok (.tuple #[]) (wr.setCells b (kk*3) vs))∧vs.length=(n-kk)*3:=(by have hc:∀ j,j<(n-kk)*3→(wr.cell? ⟨b,kk*3+j,none⟩).isSome=true∧wr.frozen? ⟨b,kk*3+j,none⟩=false:=(by intro j hj;obtain ⟨a1,a2⟩:=um.out (kk+j / 3) ay (j % 3) (Nat.mod_lt _ aL);rw [show (kk+j / 3)*3+j % 3=kk*3+j by omega] at a1 a2;exact ⟨by rw [a1,Bb _ _ (Nat.mod_lt _ aL)];rfl,a2⟩);exact ab9 b (kk*3) (n-kk) (cap-kk) ay (fun j hj=>(hc j hj).1) fun j hj=>(hc j hj).2);have iB:=aj (HT.out (wr.setCells b (kk*3) vs) (by intro i hi c hc;rw [List.length_take] at hi;obtain ⟨a1,a2⟩:=um.out i ay c hc;rw [List.getElem_take,World.frozen?_setCells];refine ⟨?_,a2⟩;rw [←a1];exact World.cell?_setCells_out b vs _ wr ⟨b,i*3+c,none⟩ (fun _ _=>.inl (by show i*3+c<kk*3;omega))));have HOO:=aj (HO.out.trans (ab8 (w:=wr) b vs (kk*3)));clear hvl q1 q2' q3;go_wp2;go_ret;exact ⟨by rw [HL.out];rfl,by rw [HL.out];exact iB.out,HOO.out⟩}
      · have hb:decide (x=y)=false:=decide_eq_false hxy;rw [hb] at EQ;have HS:=aj (fun h=>hxy (rX.out.2 h));clear hb hxy rX HX HY;(go_wp2_with fail);go_region
        go_wp2;go_roundg (n-(k+1))
        (case measure=>omega);case rel=>exact ⟨k+1,q+1,ay,ay,Nat.le_refl _,aN,rfl,fun i h1 h3=>by
         by_cases e:i=k;{subst e;exact HS.out}
         · exact HD.out i h1 ay⟩
    {obtain rfl:k=n:=ay;have hA:=aj (Ra.out HD.out q);go_wp2;go_ret;exact ⟨by rw [←hA.out.1];rfl,hA.out.2⟩}
end Go.Proofs.YtockbaekcbeenaaGreatDoor
