/-SoRTri-/
import Derived.Test.YtjaebndajhppgaaGreatDoorMfHd1
import Derived.Test.YtjaebndajhppgaaGreatDoorMfGTri
import Derived.Test.YtjaebndajhppgaaGreatDoorMfPrOne
import Derived.Test.YtjaebndajhppgaaGreatDoorMfGRg6
import Derived.Test.YtjaebndajhppgaaGreatDoorMfGPr1
import Derived.Test.YtjaebndajhppgaaGreatDoorMfGPar
import Derived.Deep.RegionHeld3
set_option linter.unusedVariables false
set_option linter.unusedSimpArgs false
set_option maxRecDepth 100000
set_option maxHeartbeats 8000000
namespace Go.Proofs.YtjaebndajhppgaaGreatDoor
open Go.Proofs.Tryz
open Go.ChangeShapes Go.WideShapes Go.ChangeAt Go.RowKit
def rest (r:Option (Nat×List UInt8×List UInt8×List UInt8)):Option (List UInt8):=match r with
 | none=>none
 | some p=>some p.2.2.2
theorem Vv {s:List UInt8} {a:Nat×List UInt8×List UInt8×List UInt8} (h:Tm.fT s=some a):a.2.1.length≤4*s.length∧a.2.2.1.length≤4*s.length∧a.2.2.2.length≤s.length:=by
 rw [Tm.NT] at h;cases hx:Tm.rt s with
 | none=>rw [hx] at h;cases h
 | some p=>obtain ⟨b,r⟩:=p;rw [hx] at h;simp only at h;split at h;{simp only [Option.some.injEq] at h;have:=Tm.Cy hx;subst h;exact ⟨this.1,this.2.1,this.2.2.1⟩};{cases h}
def Tm.iT (s:List UInt8):Option (Nat×List UInt8×List UInt8):=
 if Lib.validD s=true then match Tm.fT s with
  | some (k,t,x,v)=>if v=[]∧Tm.aS k t x=s then some (k,t,x) else none
  | none=>none
 else none
theorem agX {s:List UInt8} {a:Nat×List UInt8×List UInt8} (h:Tm.iT s=some a):a.2.1.length≤4*s.length∧a.2.2.length≤4*s.length:=by
 unfold Tm.iT at h;split at h
 · cases ho:Tm.fT s with
   | none=>rw [ho] at h;cases h
   | some b=>obtain ⟨k,t,x,v⟩:=b;have:=Vv ho;rw [ho] at h;simp only at h this;split at h;{rw [←Option.some.inj h];exact ⟨this.1,this.2.1⟩};{cases h}
 {cases h}
def Vw:Option (Nat×List UInt8×List UInt8)→Value
 | none=>.tuple #[bG 0 [] [],.bool false]
 | some (k,t,x)=>.tuple #[bG (k:Nat) t x,.bool true]
theorem Bl {fn:Func} {tmps:Array Value} {Z:World} {b:Nat} {v0 v1 v2 v3:Value} (ht:tmps.getD 2 undef=.pointer (some ⟨b,0,none⟩)) (h3:tmps.getD 3 undef=v3) (hZ:aC Z b [v0,v1,v2] 61) (hf:fn.results=#[.cell 2 61,.tmp 3]) :
  (results fn tmps).run prog Z=.ok (.tuple #[.agg #[v0,v1,v2],v3]) Z:=by
 obtain ⟨h0,h1,h2⟩:=bO hZ;have ht':tmps[2]?.getD undef=.pointer (some ⟨b,0,none⟩):=by simpa using ht
 have h3':tmps[3]?.getD undef=v3:=by simpa using h3
 simp [results,hf,ht',h3',go_sem,h0,h1,h2]
theorem kL {w X:World} {b:Nat} (h:Below w.heap.size w X) (hb:w.heap.size≤b) (i:Nat) (v:Value):Below w.heap.size w (X.setCell ⟨b,i,none⟩ v):=h.setCell hb v
theorem agY (s:List UInt8) (W:World) (hV:dF W) (hl:s.length≤10000000) (hval:Lib.validD s=false) :
  Calls prog 98 #[aA s] W fun e W'=>e=.returned (Vw (Tm.iT s))∧Below W.heap.size W W':=by
 have HF:=aj (show Tm.iT s=none by unfold Tm.iT;rw [if_neg (by rw [hval];decide)]);have VA:=aj (fun w h=>mV s w ak h);rw [hval] at VA;have HV:=aj hV;clear hV hval;go_enter func98,ntmps98;go_wp2_with fail
 refine (VA.out _ (HV.out.1.keep ((Below.refl _ _).alloc aF _))).mono ?_;rintro e w1 ⟨rfl,hb⟩;have HB1:=aj (((Below.refl W.heap.size W).alloc aF (.cells #[.int .i64 0,.string ⟨#[]⟩,.string ⟨#[]⟩] 61)).trans (hb.mono aI));have HT1:=aj ((aC.new W [.int .i64 0,aA [],aA []] 61).keep hb);clear hb;obtain ⟨g0,g1,g2⟩:=bO HT1.out;obtain ⟨j0,j1,j2⟩:=eX HT1.out;go_wp2;exact bodyPost_ret (v:=.tuple #[bG 0 [] [],.bool false]) (Bl rfl rfl (((HT1.out.set 0 (.int .i64 0)).set 1 (aA [])).set 2 (aA [])) results98) rfl ⟨by rw [HF.out];rfl,kL (kL (kL HB1.out aF 0 _) aF 1 _) aF 2 _⟩
theorem agZ (s:List UInt8) (W:World) (hV:dF W) (hl:s.length≤1000000) :
  Calls prog 98 #[aA s] W fun e W'=>e=.returned (Vw (Tm.iT s))∧Below W.heap.size W W':=by
 cases hval:Lib.validD s;{exact agY s W hV ak hval};have VA:=aj (fun w h=>mV s w ak h);rw [hval] at VA;have HV:=aj hV;have HF:=aj (show Tm.iT s=match Tm.fT s with | some (k,t,x,v)=>if v=[]∧Tm.aS k t x=s then some (k,t,x) else none | none=>none by unfold Tm.iT;rw [if_pos hval]);have TR:=aj (show ∀ q w,um W w q→Rd w q s false→Calls prog 135 #[bB q] w fun e w'=>∃ (k:Int) (t x v:List UInt8) (b:Bool),e=.returned (bG k t x)∧aH q w w'∧Rd w' q v b∧Hid ((b=true∧Tm.fT s=none)∨(b=false∧∃ n:Nat,k=n∧Tm.fT s=some (n,t,x,v))) from fun q w hb hr=>by
  refine (YR q s w W hb ak hr).mono ?_;rintro e w' ⟨yJ,h⟩;cases ho:Tm.fT s with
  | none=>rw [ho] at h;obtain ⟨⟨k,t,x,rfl⟩,hrd⟩:=h;exact ⟨k,t,x,[],true,rfl,yJ,hrd,.inl ⟨rfl,rfl⟩⟩
  | some a=>obtain ⟨k,t,x,v⟩:=a;rw [ho] at h;obtain ⟨rfl,hrd⟩:=h;exact ⟨_,t,x,v,false,rfl,yJ,hrd,.inr ⟨rfl,k,rfl,rfl⟩⟩)
 clear hV hval;go_enter func98,ntmps98;go_wp2_with fail
 refine (VA.out _ (HV.out.1.keep ((Below.refl _ _).alloc aF _))).mono ?_;rintro e w1 ⟨rfl,hb⟩;have HB1:=aj (((Below.refl W.heap.size W).alloc aF (.cells #[.int .i64 0,.string ⟨#[]⟩,.string ⟨#[]⟩] 61)).trans (hb.mono aI));have HT1:=aj ((aC.new W [.int .i64 0,aA [],aA []] 61).keep hb);have hz1:W.heap.size+1≤w1.heap.size:=by have:=hb.size;simpa using this
 clear hb;go_wp2_with fail
 refine (TR.out w1.heap.size _ ⟨HV.out,HB1.out.alloc HB1.out.size _,HB1.out.size⟩ (aC.new' rfl rfl)).mono ?_;rintro e w2 ⟨k,t,x,v,b,rfl,hb2,hr2,HO⟩;have HR2:=aj hr2;have HB2:=aj (hb2.into (HB1.out.alloc HB1.out.size (.cells #[aA s,.bool false] 202)) HB1.out.size);have HT2:=aj (aH.blk (HT1.out.alloc (.cells #[aA s,.bool false] 202)) hb2 ak);have hz2:w1.heap.size+1≤w2.heap.size:=by have:=hb2.size;simpa using this
 clear hr2 hb2;have HT3:=aj (HT2.out.alloc (.cells #[.int .i64 k,aA t,aA x] 61));have HB3:=aj (HB2.out.alloc HB2.out.size (.cells #[.int .i64 k,aA t,aA x] 61));have HR3:=aj (HR2.out.keep ((Below.refl _ _).alloc aF (.cells #[.int .i64 k,aA t,aA x] 61)));obtain ⟨c0,c1,f0,f1⟩:=HR3.out.cells;obtain ⟨g0,g1,g2⟩:=bO HT3.out;obtain ⟨j0,j1,j2⟩:=eX HT3.out;rcases HO.out with ⟨rfl,ho⟩ | ⟨rfl,n,rfl,ho⟩;{rw [ho] at HF;go_wp2;exact bodyPost_ret (v:=.tuple #[bG 0 [] [],.bool false]) (Bl rfl rfl (((HT3.out.set 0 (.int .i64 0)).set 1 (aA [])).set 2 (aA [])) results98) rfl ⟨by rw [HF.out];rfl,kL (kL (kL HB3.out aF 0 _) aF 1 _) aF 2 _⟩}
 · rw [ho] at HF;simp only at HF;by_cases hv:v=[]
   · subst hv;have hlen:=Vv ho;have hkn:1≤n∧n≤5:=by
      rw [Tm.NT] at ho;cases h1:Tm.rt s with
      | none=>rw [h1] at ho;cases ho
      | some p=>obtain ⟨a,r⟩:=p;rw [h1] at ho;simp only at ho;cases g:Tm.dD a;{rw [g] at ho;cases ho};{rw [g,if_pos rfl] at ho;have e:a.1=n:=congrArg Prod.fst (Option.some.inj ho);obtain ⟨m,e2,hm⟩:=Tm.gZ g;omega}
     have SH:=aj (fun w=>uw n t x w hkn (by have:=hlen.1;simp only at this;omega) (by have:=hlen.2.1;simp only at this;omega));clear HO ho hlen;(go_wp2_with fail);refine (SH.out _).mono ?_;rintro e w3 ⟨rfl,hb⟩;obtain ⟨k0,k1,k2,hB⟩:=bE hb;have cO:=aj (HT3.out.keep hb);have aT:=aj (aJ HB2.out hB);clear hb hB c0 c1 f0 f1 g0 g1 g2 j0 j1 j2;obtain ⟨g0,g1,g2⟩:=bO cO.out;obtain ⟨j0,j1,j2⟩:=eX cO.out;by_cases hs:Tm.aS n t x=s;{rw [if_pos ⟨trivial,hs⟩] at HF;have hss:(s != s)=false:=aI;rw [hs];go_wp2;exact bodyPost_ret (v:=.tuple #[bG (n:Nat) t x,.bool true]) (Bl rfl rfl (((cO.out.set 0 (.int .i64 (n:Nat))).set 1 (aA t)).set 2 (aA x)) results98) rfl ⟨by rw [HF.out];rfl,kL (kL (kL aT.out aF 0 _) aF 1 _) aF 2 _⟩};{rw [if_neg (fun h=>hs h.2)] at HF;have hss:(Tm.aS n t x != s)=true:=(by simp [hs]);have hsd:(!(Tm.aS n t x==s))=true:=(by rw [beq_eq_false_iff_ne.2 hs];rfl);go_wp2;exact bodyPost_ret (v:=.tuple #[bG 0 [] [],.bool false]) (Bl rfl rfl (((cO.out.set 0 (.int .i64 0)).set 1 (aA [])).set 2 (aA [])) results98) rfl ⟨by rw [HF.out];rfl,kL (kL (kL aT.out aF 0 _) aF 1 _) aF 2 _⟩}
   · rw [if_neg (fun h=>hv h.1)] at HF;have hvv:(!v.isEmpty)=true:=by cases v with | nil=>exact absurd rfl hv | cons _ _=>rfl
     clear HO ho;go_wp2;exact bodyPost_ret (v:=.tuple #[bG 0 [] [],.bool false]) (Bl rfl rfl (((HT3.out.set 0 (.int .i64 0)).set 1 (aA [])).set 2 (aA [])) results98) rfl ⟨by rw [HF.out];rfl,kL (kL (kL HB3.out aF 0 _) aF 1 _) aF 2 _⟩
open Go.Sort
def So.kM (T:List (List UInt8)):Option (List T3):=if ∀ s∈T,(Tm.iT s).isSome=true then some (T.filterMap Tm.iT) else none
def ag0 (w:World) (r:Option (List T3)) (e:Ending) (w':World):Prop:=
 (match r with
   | none=>e=.returned (.tuple #[.slice none 0 0,.bool false])
   | some E=>∃ v,e=.returned (.tuple #[v,.bool true])∧bF w' v E)∧Below w.heap.size w w'
theorem ag1 (T:List (List UInt8)) (hn:T.length≤1000) (hT:∀ s∈T,s.length≤1000) (w:World) (v:Value) (hv:fI w v T) (hV:dF w) :
  Calls prog 53 #[v] w (ag0 w (So.kM T)):=by
 have Vx:=aj hv;have HV:=aj hV;have HT:=aj hT;obtain ⟨a,cap,rfl,q1,q2,q3,_⟩:=hv;obtain ⟨n,hnn⟩:=aB T.length;rw [←hnn] at Vx hn q1 ⊢;have HN:=aj hnn;clear hV hT hnn;go_enter func53,ntmps53;go_wp2;go_loopg [4,5,6,7] n (fun gk s4 s5 s6 s7 wr=>∃ (i:Nat) (E:List T3),s5=.int .i64 i∧i≤n∧n-i≤gk∧E.length=i∧Hid (Below w.heap.size w wr)∧Hid (wr.ownsRow w.heap.size 61 3 s4 i (b_ E))∧Hid (∀ s∈T.take i,(Tm.iT s).isSome=true)∧Hid (E=(T.take i).filterMap Tm.iT))
 case atStart=>exact ⟨0,[],rfl,Nat.zero_le _,Nat.le_refl _,rfl,Below.refl _ _,World.ownsRow_nil _ _ _ _,aj (fun s h=>by simp at h),rfl⟩
 case round=>
  obtain ⟨i,E,rfl,hin,hg,hEl,HB,HR,HS,HE⟩:=hrel;by_cases hlt:i<n
  · have hltz:(i:Int)<(n:Int):=ak;have xK:i<T.length:=(by rw [←HN.out];exact hlt);obtain ⟨a',cap',e1,_,_,_,hrow⟩:=Vx.out.keep HB.out;simp only [Value.slice.injEq] at e1;obtain ⟨rfl,-,rfl⟩:=e1;obtain ⟨ab,ao,rfl,hc⟩:=hrow.get (i:=i) xK;have ci:=hc i xK;obtain ⟨s,hs⟩:=aB (T.getD i []);rw [←hs] at ci;have KZ:s=T[i]:=(by rw [hs];simp [List.getD,xK]);have hsm:s∈T:=(by rw [KZ];exact List.getElem_mem _);have hst:T.take (i+1)=T.take i++[s]:=(by rw [List.take_succ_eq_append_getElem xK,←KZ]);have HST:=aj hst;have Ae:=aj hsm;have TF:=aj (fun W hV=>agZ s W hV (Nat.le_trans (HT.out s hsm) ak));clear hrow hc hs KZ hst hsm;cases ho:Tm.iT s with
    | none=>
     have HF:=aj (show So.kM T=none by unfold So.kM;rw [if_neg];intro h;have:=h s Ae.out;rw [ho] at this;cases this);rw [ho] at TF;have K4:Hid (∀ W,dF W→Calls prog 98 #[aA s] W fun e W'=>e=.returned (.tuple #[bG 0 [] [],.bool false])∧Below W.heap.size W W'):=TF;clear TF ho;(go_wp2_with fail);refine (K4.out _ (HV.out.keep HB.out)).mono ?_;rintro e w3 ⟨rfl,hb⟩;have HB3:=aj (aJ HB.out hb);clear hb;go_wp2;go_ret2
     rw [HF.out];exact ⟨rfl,HB3.out.alloc HB3.out.size _⟩
    | some t=>
     have HS2:=aj (show ∀ s∈T.take (i+1),(Tm.iT s).isSome=true from fun u hu=>by
      rw [HST.out] at hu;rcases List.mem_append.1 hu with h | h;{exact HS.out u h}
      · rw [List.mem_singleton.1 h,ho];rfl)
     have HE2:=aj (show E++[t]=(T.take (i+1)).filterMap Tm.iT by rw [HST.out,List.filterMap_append,←HE.out];simp [ho]);rw [ho] at TF;obtain ⟨k,t,x⟩:=t;have K4:Hid (∀ W,dF W→Calls prog 98 #[aA s] W fun e W'=>e=.returned (.tuple #[bG (k:Nat) t x,.bool true])∧Below W.heap.size W W'):=TF;clear TF ho;(go_wp2_with fail);refine (K4.out _ (HV.out.keep HB.out)).mono ?_;rintro e w3 ⟨rfl,hb⟩;have HB3:=aj (aJ HB.out hb);have HR3:=aj (wP HR.out hb);clear hb;have aT:=aj (show Below w.heap.size w (w3.alloc (.cells #[.int .i64 (k:Nat),aA t,aA x] 61)) from HB3.out.alloc HB3.out.size _);have HR4:=aj (show (w3.alloc (.cells #[.int .i64 (k:Nat),aA t,aA x] 61)).ownsRow w.heap.size 61 3 u4 i (b_ E) from HR3.out.alloc _);have bH:=aj (aC.new w3 [.int .i64 (k:Nat),aA t,aA x] 61);(go_upto_region 6 with fail);show Code.wp _ _ _ _ (w3.alloc (.cells #[.int .i64 (k:Nat),aA t,aA x] 61));obtain ⟨w4,hw4⟩:=aB (w3.alloc (.cells #[.int .i64 (k:Nat),aA t,aA x] 61));obtain ⟨b4,hb4⟩:=aB w3.heap.size;rw [←hw4] at aT HR4 bH ⊢;rw [←hb4] at bH ⊢;have oV:=aT.out.size;clear hw4 hb4;obtain ⟨c0,c1,c2⟩:=bO bH.out;obtain ⟨iS,hi0,bW,bX,bY⟩:=Ag;(go_wp2_with (at_builtin;refine oI rfl (.tmp 24) (.tmp 26) 62 rfl w.heap.size 61 iS _ 3 40 underlying62 hi0 bW bX bY rfl aL _ _ _ rfl (HR4.out.alloc _) (some ⟨w4.heap.size,0,none⟩) 1 1 (b_ [(k,t,x)]) rfl (fun h=>by cases h) rfl (wS w4 (b_ [(k,t,x)]) 61) (n_ _) (by unfold maxLen;omega) ak (by simp;omega) ?_));intro v8 w8 g1 g2 g3;have aX:=aj ((aT.out.alloc oV _).grown g2 (by simp;omega) (fun k hk=>(HR4.out.lt k hk).1));have gP:=aj (show w8.ownsRow w.heap.size 61 3 v8 (i+1) (b_ (E++[(k,t,x)])) by rw [IY];exact g1);clear g1 g2 g3;go_wp2;go_roundg (n-(i+1))
     (case measure=>omega);case rel=>exact ⟨i+1,E++[(k,t,x)],aN,ak,ak,by rw [List.length_append,hEl];rfl,aX,gP,HS2,HE2⟩
  · obtain rfl:i=n:=ak;have HF:=aj (show So.kM T=some E by have h1:=HS.out;have h2:=HE.out;rw [HN.out,List.take_length] at h1 h2;unfold So.kM;rw [if_pos h1,←h2]);go_wp2;go_ret2
    rw [HF.out];subst hEl;exact ⟨⟨_,rfl,SF HR.out⟩,HB.out⟩
def So.nI (E:List T3) (x:Int):Option T3:=if 1≤x∧x≤E.length then E[x.toNat-1]? else none
theorem K5 {E:List T3} {x:Int} (h:1≤x∧x≤E.length):∃ i,∃ hi:i<E.length,x=(i:Int)+1∧So.nI E x=some E[i]:=by refine ⟨x.toNat-1,ak,ak,?_⟩;unfold So.nI;rw [if_pos h,List.getElem?_eq_getElem]
def So.iU (N:List Int) (E:List T3) (j:Nat):Option TR:=
 match So.nI E (N.getD (3*j) 0),So.nI E (N.getD (3*j+1) 0),So.nI E (N.getD (3*j+2) 0) with
 | some a,some b,some c=>if Tm.aZ (a,b,c)=true then some (a,b,c) else none
 | _,_,_=>none
def So.jl (N:List Int) (E:List T3) (m:Nat):Option (List TR):=if ∀ j<m,(So.iU N E j).isSome=true then some ((List.range m).filterMap (So.iU N E)) else none
theorem Vy {N:List Int} {E:List T3} {m j:Nat} (hj:j<m) (h:So.iU N E j=none):So.jl N E m=none:=by unfold So.jl;rw [if_neg];intro h1;have:=h1 j hj;rw [h] at this;cases this
theorem ag2 {N:List Int} {E:List T3} {j k:Nat} (hk:k<3) (h:So.nI E (N.getD (3*j+k) 0)=none):So.iU N E j=none:=by unfold So.iU;rcases (show k=0∨k=1∨k=2 by omega) with rfl | rfl | rfl;{rw [Nat.add_zero] at h;rw [h]};{rw [h];cases So.nI E (N.getD (3*j) 0) <;> rfl};{rw [h];cases So.nI E (N.getD (3*j) 0) <;> cases So.nI E (N.getD (3*j+1) 0) <;> rfl}
theorem ag3 {N:List Int} {E:List T3} {j:Nat} {t:TR} (h:So.iU N E j=some t):Tm.aZ t=true:=by unfold So.iU at h;split at h;{split at h;{rename_i hh;rw [←Option.some.inj h];exact hh};{cases h}};{cases h}
def ag4 (w:World) (r:Option (List TR)) (e:Ending) (w':World):Prop:=
 (match r with
   | none=>e=.returned (.tuple #[.slice none 0 0,.bool false])
   | some R=>∃ v,e=.returned (.tuple #[v,.bool true])∧bJ w' v (R.map aV))∧Below w.heap.size w w'
theorem ag5 (N:List Int) (E:List T3) (m:Nat) (hm:m≤1000) (a:Option Addr) (cap:Nat) (w:World) (v:Value) (hN:bM w a (3*m) fun i=>.int .i64 (N.getD i 0)) (hEn:E.length≤1000) (hE:bF w v E) (hEl:∀ a∈E,a.2.1.length≤1000000000∧a.2.2.length≤1000000000) (hV:dF w) :
  Calls prog 56 #[.slice a (3*m) cap,v] w (ag4 w (So.jl N E m)):=by
 have Vz:=aj hN;have Bo:=aj hE;have K6:=aj hEl;have HV:=aj hV;obtain ⟨ae,ce,rfl,_,_,_⟩:=hE.open;obtain ⟨le,hle⟩:=aB E.length;obtain ⟨m3,jS⟩:=aB (3*m);rw [←hle] at Bo ⊢;rw [←jS] at Vz ⊢;have oL:=aj hle;have l8:=aj jS;have hle2:le≤1000:=ak;clear hN hE hle hEn jS hEl hV;go_enter func56,ntmps56;go_wp2;go_loopg [6,7,8,9] m (fun gk s6 s7 s8 s9 wr=>∃ (i j:Nat) (R:List TR),s7=.int .i64 j∧j=3*i∧i≤m∧m-i≤gk∧R.length=i∧Hid (Below w.heap.size w wr)∧Hid (wr.ownsRow w.heap.size 67 9 s6 i (bR R))∧Hid (∀ k<i,(So.iU N E k).isSome=true)∧Hid (R=(List.range i).filterMap (So.iU N E)))
 case atStart=>exact ⟨0,0,[],rfl,rfl,Nat.zero_le _,Nat.le_refl _,rfl,Below.refl _ _,World.ownsRow_nil _ _ _ _,aj (fun s h=>absurd h ak),rfl⟩
 case round=>
  obtain ⟨i,j,R,rfl,hj,him,hg,hRl,HB,HR,HS,HE⟩:=hrel;have HJ:=aj hj;clear hj;by_cases hlt:i<m
  · have hj2:j+2<m3:=(by have h1:=HJ.out;have h2:=l8.out;omega);have hz:(j:Int)+2<(m3:Int):=ak;have hjb:j≤3000:=(by have h1:=HJ.out;omega);obtain ⟨ab,ao,rfl,hc⟩:=Vz.out.get (i:=j) ak;have Fv:=aj (show ∀ k,k<m3→wr.cell? ⟨ab,ao+k,none⟩=some (.int .i64 (N.getD k 0)) from fun k hk=>aD HB.out (hc k hk));clear hc;go_wp2;go_loopg [8] 3 (fun gk s8 wq=>∃ k:Nat,s8=.int .i64 k∧k≤3∧3-k≤gk∧wq=wr∧Hid (∀ c<k,1≤N.getD (j+c) 0∧N.getD (j+c) 0≤le))
    (case atStart=>exact ⟨0,rfl,Nat.zero_le _,Nat.le_refl _,rfl,aj (fun c h=>absurd h ak)⟩);case round=>
     obtain ⟨k,rfl,hk,yY,rfl,HK⟩:=hrel;by_cases hk3:k<3
     · have hkz:(k:Int)<3:=ak;obtain ⟨jk,hjk⟩:=aB (j+k);have hjz:IntKind.i64.wrap ((j:Int)+(k:Int))=(jk:Int):=(by rw [IntWalk.i64_in _ ⟨ak,ak⟩];omega);have hjm:(jk:Int)<(m3:Int):=ak;have cj:=Fv.out jk ak;obtain ⟨x,hx⟩:=aB (N.getD jk 0);have HX:=aj hx;have VB:=aj hjk;rw [←hx] at cj;clear hx;by_cases hr:1≤x∧x≤(le:Int)
       · have h1:¬ x<1:=ak;have h2:¬ (le:Int)<x:=ak;have HK2:=aj (show ∀ c<k+1,1≤N.getD (j+c) 0∧N.getD (j+c) 0≤le from fun c hc=>by
          by_cases e:c=k;{subst e;rw [←VB.out,←HX.out];exact hr}
          · exact HK.out c ak)
         clear hr hjk;go_wp2;go_roundg (3-(k+1))
         (case measure=>omega);case rel=>exact ⟨k+1,aN,ak,ak,rfl,HK2⟩
       · have HF:=aj (show So.jl N E m=none from Vy hlt (ag2 (k:=k) hk3 (by unfold So.nI;rw [if_neg];rw [←HJ.out,←VB.out,←HX.out,←oL.out];exact hr)));clear hjk;by_cases h1:x<1
         · go_wp2;go_ret2
           rw [HF.out];exact ⟨rfl,HB.out⟩
         · have h2:(le:Int)<x:=ak;clear hr;go_wp2;go_ret2
           rw [HF.out];exact ⟨rfl,HB.out⟩
     · obtain rfl:k=3:=ak;obtain ⟨i0,g0,e0,o0⟩:=K5 (E:=E) (x:=N.getD (j+0) 0) (by rw [←oL.out];exact HK.out 0 ak);obtain ⟨i1,g1,e1,o1⟩:=K5 (E:=E) (x:=N.getD (j+1) 0) (by rw [←oL.out];exact HK.out 1 ak);obtain ⟨i2,g2,e2,o2⟩:=K5 (E:=E) (x:=N.getD (j+2) 0) (by rw [←oL.out];exact HK.out 2 ak);rw [Nat.add_zero] at e0 o0;have Bp:=aj (show So.iU N E i=if Tm.aZ (E[i0],E[i1],E[i2])=true then some (E[i0],E[i1],E[i2]) else none by unfold So.iU;rw [←HJ.out,o0,o1,o2]);have n0:=Fv.out j ak;have n1:=Fv.out (j+1) ak;have n2:=Fv.out (j+2) ak;rw [e0] at n0;rw [e1] at n1;rw [e2] at n2;obtain ⟨ja,hja⟩:=aB (j+1);obtain ⟨jb,hjb2⟩:=aB (j+2);rw [←hja] at n1;rw [←hjb2] at n2;obtain ⟨be,oe,hbe,hrow⟩:=(Bo.out.keep HB.out).get (i:=i0) g0;subst hbe;obtain ⟨c00,kN,Bq⟩:=(Bo.out.keep HB.out).at g0;obtain ⟨c10,c11,c12⟩:=(Bo.out.keep HB.out).at g1;obtain ⟨c20,c21,Br⟩:=(Bo.out.keep HB.out).at g2;have l0:=K6.out _ (List.getElem_mem g0);have l1:=K6.out _ (List.getElem_mem g1);have l2:=K6.out _ (List.getElem_mem g2);have y0:(i0:Int)<(le:Int):=(by have:=oL.out;omega);have y1:(i1:Int)<(le:Int):=(by have:=oL.out;omega);have y2:(i2:Int)<(le:Int):=(by have:=oL.out;omega);have z0:IntKind.i64.wrap ((i0:Int)+1-1)=(i0:Int):=(by rw [IntWalk.i64_in _ ⟨ak,ak⟩];omega);have z1:IntKind.i64.wrap ((i1:Int)+1-1)=(i1:Int):=(by rw [IntWalk.i64_in _ ⟨ak,ak⟩];omega);have z2:IntKind.i64.wrap ((i2:Int)+1-1)=(i2:Int):=(by rw [IntWalk.i64_in _ ⟨ak,ak⟩];omega);obtain ⟨x0,hx0⟩:∃ x0:Int,x0=(i0:Int)+1:=⟨_,rfl⟩;obtain ⟨x1,hx1⟩:∃ x1:Int,x1=(i1:Int)+1:=⟨_,rfl⟩;obtain ⟨x2,hx2⟩:∃ x2:Int,x2=(i2:Int)+1:=⟨_,rfl⟩;rw [←hx0] at n0 z0;rw [←hx1] at n1 z1;rw [←hx2] at n2 z2;obtain ⟨t0,ht0⟩:=aB (E[i0]);obtain ⟨t1,ht1⟩:=aB (E[i1]);obtain ⟨t2,ht2⟩:=aB (E[i2]);rw [←ht0] at c00 kN Bq l0;rw [←ht1] at c10 c11 c12 l1;rw [←ht2] at c20 c21 Br l2;rw [←ht0,←ht1,←ht2] at Bp;have j1:IntKind.i64.wrap ((j:Int)+1)=(ja:Int):=(by rw [IntWalk.i64_in _ ⟨ak,ak⟩];omega);have j2:IntKind.i64.wrap ((j:Int)+2)=(jb:Int):=(by rw [IntWalk.i64_in _ ⟨ak,ak⟩];omega);have w0:(j:Int)<(m3:Int):=ak;have w1:(ja:Int)<(m3:Int):=ak;have w2:(jb:Int)<(m3:Int):=ak;clear hja hjb2 ht0 ht1 ht2 hx0 hx1 hx2 e0 e1 e2 o0 o1 o2 hrow;(go_upto_region 10 with fail);have jO:=aj (show Below wr.heap.size wr (wr.drew.alloc (.cells #[.int .i64 0,.string ⟨#[]⟩,.string ⟨#[]⟩,.int .i64 0,.string ⟨#[]⟩,.string ⟨#[]⟩,.int .i64 0,.string ⟨#[]⟩,.string ⟨#[]⟩] 67)) from (Below.drew (Below.refl _ _)).alloc aI _);have mJ:=aj (show Below wr.heap.size wr (wr.drew.alloc (.cells #[.int .i64 (t0.1:Nat),aA t0.2.1,aA t0.2.2,.int .i64 (t1.1:Nat),aA t1.2.1,aA t1.2.2,.int .i64 (t2.1:Nat),aA t2.2.1,aA t2.2.2] 67)) from (Below.drew (Below.refl _ _)).alloc aI _);go_region_held3 (fun w'=>w'.cell? ⟨ab,ao+j,none⟩=some (.int .i64 x0)∧w'.cell? ⟨ab,ao+ja,none⟩=some (.int .i64 x1)∧w'.cell? ⟨ab,ao+jb,none⟩=some (.int .i64 x2)∧w'.cell? ⟨be,oe+i0*3,none⟩=some (.int .i64 (t0.1:Nat))∧w'.cell? ⟨be,oe+i0*3+1,none⟩=some (aA t0.2.1)∧w'.cell? ⟨be,oe+i0*3+2,none⟩=some (aA t0.2.2)∧w'.cell? ⟨be,oe+i1*3,none⟩=some (.int .i64 (t1.1:Nat))∧w'.cell? ⟨be,oe+i1*3+1,none⟩=some (aA t1.2.1)∧w'.cell? ⟨be,oe+i1*3+2,none⟩=some (aA t1.2.2)∧w'.cell? ⟨be,oe+i2*3,none⟩=some (.int .i64 (t2.1:Nat))∧w'.cell? ⟨be,oe+i2*3+1,none⟩=some (aA t2.2.1)∧w'.cell? ⟨be,oe+i2*3+2,none⟩=some (aA t2.2.2))
        (first
          | exact ⟨aD jO.out n0,aD jO.out n1,aD jO.out n2,aD jO.out c00,aD jO.out kN,aD jO.out Bq,aD jO.out c10,aD jO.out c11,aD jO.out c12,aD jO.out c20,aD jO.out c21,aD jO.out Br⟩
          | exact ⟨aD mJ.out n0,aD mJ.out n1,aD mJ.out n2,aD mJ.out c00,aD mJ.out kN,aD mJ.out Bq,aD mJ.out c10,aD mJ.out c11,aD mJ.out c12,aD mJ.out c20,aD mJ.out c21,aD mJ.out Br⟩
          | exact ⟨n0,n1,n2,c00,kN,Bq,c10,c11,c12,c20,c21,Br⟩
          | go_keep)
        (fail)
       clear n0 n1 n2 c00 kN Bq c10 c11 c12 c20 c21 Br z0 z1 z2 y0 y1 y2 w0 w1 w2 j1 j2 jO;obtain ⟨p1,s1,r1⟩:=t0;obtain ⟨p2,s2,r2⟩:=t1;obtain ⟨p3,s3,r3⟩:=t2;obtain ⟨w4,hw4⟩:=aB ((aW wr p1 s1 r1 p2 s2 r2 p3 s3 r3).drew);obtain ⟨b4,hb4⟩:=aB wr.heap.size;have bH:=aj (show aC w4 b4 [.int .i64 (p1:Nat),aA s1,aA r1,.int .i64 (p2:Nat),aA s2,aA r2,.int .i64 (p3:Nat),aA s3,aA r3] 67 by rw [hw4,hb4];exact f_ wr p1 s1 r1 p2 s2 r2 p3 s3 r3);have aT:=aj (show Below w.heap.size w w4 by rw [hw4];exact (HB.out.alloc HB.out.size _).drew);have HR4:=aj (show w4.ownsRow w.heap.size 67 9 u6 i (bR R) by rw [hw4];exact (HR.out.alloc _:(aW wr p1 s1 r1 p2 s2 r2 p3 s3 r3).ownsRow w.heap.size 67 9 u6 i (bR R)));change Exit.then _ _ _ _ (aW wr p1 s1 r1 p2 s2 r2 p3 s3 r3).drew;rw [←hw4,←hb4];clear hw4 hb4 mJ;obtain ⟨c0,c1,c2,c3,c4,c5,c6,c7,c8⟩:=dQ bH.out;have IS:=aj (fun W hV=>Za (p1:Nat) s1 r1 (p2:Nat) s2 r2 (p3:Nat) s3 r3 W l0.1 l0.2 l1.1 l1.2 l2.1 l2.2 hV);have HIT:=aj (Jo (p1,s1,r1) (p2,s2,r2) (p3,s3,r3));simp only at HIT;rw [HIT.out] at IS;clear l0 l1 l2 HIT;cases hti:Tm.aZ ((p1,s1,r1),(p2,s2,r2),p3,s3,r3)
       · have HF:=aj (show So.jl N E m=none from Vy hlt (by rw [Bp.out,if_neg (by rw [hti];decide)]));rw [hti] at IS;clear hti Bp;(go_wp2_with fail);refine (IS.out _ (HV.out.keep aT.out)).mono ?_;rintro e w5 ⟨rfl,hb⟩;have aO:=aj (aJ aT.out hb);clear hb;go_wp2;go_ret2
         rw [HF.out];exact ⟨rfl,aO.out⟩
       · have HT1:=aj (show So.iU N E i=some ((p1,s1,r1),(p2,s2,r2),p3,s3,r3) by rw [Bp.out,if_pos hti]);rw [hti] at IS;clear hti Bp;(go_wp2_with fail);refine (IS.out _ (HV.out.keep aT.out)).mono ?_;rintro e w5 ⟨rfl,hb⟩;have aO:=aj (aJ aT.out hb);have dz:=aj (wP HR4.out hb);have fE:=aj (bH.out.keep hb);clear hb c0 c1 c2 c3 c4 c5 c6 c7 c8;have rZ:=aO.out.size;obtain ⟨c0,c1,c2,c3,c4,c5,c6,c7,c8⟩:=dQ fE.out;obtain ⟨iS,hi0,bW,bX,bY⟩:=sI;(go_wp2_with (at_builtin;refine oI rfl (.tmp 69) (.tmp 71) 39 rfl w.heap.size 67 iS _ 9 120 underlying39 hi0 bW bX bY rfl aL _ _ _ rfl (dz.out.alloc _) (some ⟨w5.heap.size,0,none⟩) 1 1 (aV ((p1,s1,r1),(p2,s2,r2),p3,s3,r3)).cells rfl (fun h=>by cases h) rfl (EB w5 ((p1,s1,r1),(p2,s2,r2),p3,s3,r3)) (pI _) (by unfold maxLen;omega) ak (by simp;omega) ?_));intro v8 w8 g1 g2 g3;have aX:=aj ((aO.out.alloc rZ _).grown g2 (by simp;omega) (fun k hk=>(dz.out.lt k hk).1));have gP:=aj (show w8.ownsRow w.heap.size 67 9 v8 (i+1) (bR (R++[((p1,s1,r1),(p2,s2,r2),p3,s3,r3)])) by rw [Sb];exact g1);have HS2:=aj (show ∀ k<i+1,(So.iU N E k).isSome=true from fun k hk=>by
          by_cases e:k=i;{rw [e,HT1.out];rfl}
          · exact HS.out k ak)
         have HE2:=aj (show R++[((p1,s1,r1),(p2,s2,r2),p3,s3,r3)]=(List.range (i+1)).filterMap (So.iU N E) by rw [List.range_succ,List.filterMap_append,←HE.out];simp [HT1.out]);have j3:IntKind.i64.wrap ((j:Int)+3)=((j+3:Nat):Int):=(by rw [IntWalk.i64_in _ ⟨ak,ak⟩];omega);clear g1 g2 g3;go_wp2;go_roundg (m-(i+1))
         (case measure=>omega);case rel=>exact ⟨i+1,j+3,_,aN,by have:=HJ.out;omega,ak,ak,by rw [List.length_append,hRl];rfl,aX,gP,HS2,HE2⟩
  · obtain rfl:i=m:=ak;have hjb:j≤3000:=(by have h1:=HJ.out;omega);have hz:(m3:Int)≤(j:Int)+2:=(by have h1:=HJ.out;have h2:=l8.out;omega);have HF:=aj (show So.jl N E i=some R by unfold So.jl;rw [if_pos HS.out,←HE.out]);go_wp2;go_ret2
    rw [HF.out];subst hRl;exact ⟨⟨_,rfl,Ay HR.out⟩,HB.out⟩
end Go.Proofs.YtjaebndajhppgaaGreatDoor
