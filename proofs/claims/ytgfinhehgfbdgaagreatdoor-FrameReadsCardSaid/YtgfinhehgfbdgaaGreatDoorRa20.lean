import Derived.Test.YtgfinhehgfbdgaaGreatDoorRa19
import Derived.Test.YtgfinhehgfbdgaaGreatDoorRa07
namespace Go.Proofs.YtgfinhehgfbdgaaGreatDoor
open Go.RowKit
theorem listF_dup {T:List ByteArray} {l:List Int} (h:(dupR T).1≠0):listF T l=([],dupR T):=by
 unfold dupR at h ⊢;unfold listF;split at h
 · rename_i i hi;rw [hi]
 · simp at h
theorem listF_ord {T:List ByteArray} {l:List Int} (h:(dupR T).1=0) (ho:(ordG T.length 0 l 0).1≠0):listF T l=([],ordG T.length 0 l 0):=by
 unfold dupR at h;unfold listF;split at h
 · simp at h
 · rename_i hi;rw [hi];simp only [if_neg ho]
theorem listF_good {T:List ByteArray} {l:List Int} (h:(dupR T).1=0) (ho:(ordG T.length 0 l 0).1=0):listF T l=(outG T l,0,-1):=by
 unfold dupR at h;unfold listF;split at h
 · simp at h
 · rename_i hi;rw [hi];simp only [if_pos ho]
theorem ordG_in (K:Nat) (l:List Int):∀ told i,(ordG K told l i).1=0→∀ n∈l,0≤n∧n<(K:Int):=by
 induction l with
 | nil=>intro told i _ n hn;cases hn
 | cons z r ih =>
   intro told i h n hn;unfold ordG at h;split at h
   · simp at h
   · rename_i h1;split at h
     · simp at h
     · rcases List.mem_cons.1 hn with rfl | hn
       · omega
       · exact ih _ _ h n hn
theorem outG_snoc {T:List ByteArray} {l:List Int} {k j:Nat} {s:ByteArray} (h:l[k]? = some (j:Int)) (hs:T[j]? = some s):outG T (l.take (k+1))=outG T (l.take k)++[s]:=by
 obtain ⟨hk,e⟩:=List.getElem?_eq_some_iff.1 h;rw [←List.take_append_getElem hk,e];unfold outG;rw [List.map_append];simp [hs]
def ListIs (w:World) (r:List ByteArray×Nat×Int) (e:Ending) (w':World):Prop :=
 ∃ v err,e=.returned (.tuple #[v,err])∧ownsS w' w.heap.size v r.1∧anyErr w' err r.2∧Below w.heap.size w w'
set_option maxRecDepth 100000 in
set_option maxHeartbeats 4000000 in
theorem klist_any (v u:Value) (T:List ByteArray) (l:List Int) (w:World) (hv:IsTexts w v T) (hu:IsNums w u l) (hT:T.length≤1000000) (hl:l.length≤1000000) (hs:∀ s∈T,s.size≤140737488351232) :
   Calls Tryz.prog 154 #[v,u] w (ListIs w (listF T l)):=by
 have HV:=Lib.hid hv;have HU:=Lib.hid hu;have HS:=Lib.hid hs;have HTL:=Lib.hid hT;have HLL:=Lib.hid hl;obtain ⟨a1,c1,rfl,_,f1⟩:=hv;obtain ⟨a2,c2,rfl,_,f2⟩:=hu;have F1:=Lib.hid f1;have F2:=Lib.hid f2;obtain ⟨m,hm⟩:∃ m,m=T.length:=⟨_,rfl⟩;obtain ⟨n,hn⟩:∃ n,n=l.length:=⟨_,rfl⟩;rw [←hm] at hT HV ⊢;rw [←hn] at hl HU ⊢;have HM:=Lib.hid hm;have HN:=Lib.hid hn;clear f1 f2 hm hn hs hT hl;go_enter Tryz.func154,Tryz.ntmps154
 go_wp2_with fail
 refine (ktwice_any _ T w HV.out HTL.out HS.out).mono ?_;rintro r w1 ⟨err,rfl,he,hb1⟩;by_cases h0:(dupR T).1=0
 · obtain rfl:=anyErr.nil (.inl he) h0;have HU1:=Lib.hid (HU.out.below hb1);have HB1:=Lib.hid hb1;have H0:=Lib.hid h0;clear he hb1 h0;go_wp2_with fail
   refine (korder_any _ l m w1 HU1.out HLL.out (by rw [HM.out];exact HTL.out)).mono ?_;rintro r w2 ⟨err,rfl,he,hb2⟩;have HB2:=Lib.hid (HB1.out.trans (hb2.mono HB1.out.size));by_cases h1:(ordG m 0 l 0).1=0
   · obtain rfl:=he.nil h1;have HR:Hid (listF T l=(outG T l,0,-1)):=Lib.hid (listF_good H0.out (by rw [←HM.out];exact h1));have HI:=Lib.hid (ordG_in m l 0 0 h1);have hm':m≤1000000:=by rw [HM.out];exact HTL.out
     have hn':n≤1000000:=by rw [HN.out];exact HLL.out
     clear he hb2 h1 HB1 HU1;go_wp2
     go_loopw [8,28] (fun x i wr=>∃ k:Nat,k≤m∧i=.int .i64 k∧ownsS wr w.heap.size x (T.take k)∧Below w.heap.size w wr) (fun _ i _=>m-(intOf i).toNat)
     case atStart=>exact ⟨0,Nat.zero_le _,rfl,ownsS_nil _ _,HB2.out⟩
     case round =>
       obtain ⟨k,hk,rfl,hos,hbel⟩:=hrel;have HO:=Lib.hid hos;have HB:=Lib.hid hbel;obtain ⟨ad,cp,rfl,hcp,g1⟩:=hos.isTexts;have hkl:(T.take k).length=k:=by rw [List.length_take];have:=HM.out;omega
       have HKL:=Lib.hid hkl;rw [hkl] at HO hcp;rw [hkl];clear hos hbel hkl;by_cases hlt:k<m
       · obtain ⟨s, hs⟩ : ∃ s, T[k]? = some s := ⟨T[k]'(by have := HM.out; omega), List.getElem?_eq_getElem _⟩;obtain ⟨b1,o1,rfl,hb1,p0⟩:=F1.out k s hs;have q0:=(HB.out.cell (p:=⟨b1,o1+k,none⟩) hb1).trans p0;have HSZ:Hid (s.size≤140737488351232):=Lib.hid (HS.out s (List.mem_of_getElem? hs));have HTK:Hid (T.take k++[s]=T.take (k+1)):=Lib.hid (show _=_ by obtain ⟨hk2,e⟩:=List.getElem?_eq_some_iff.1 hs;rw [←e,List.take_append_getElem hk2]);clear p0 hs g1;go_wp2_with fail
         refine (kclone_any s _ (by have:=HSZ.out;omega)).mono ?_;rintro r w3 ⟨rfl,hb3⟩;have HB3:=Lib.hid (HB.out.trans (hb3.mono HB.out.size));have HO3:=Lib.hid (HO.out.below hb3);clear hb3 HB HO;go_wp2_with (at_builtin;refine wpList_append_str rfl _ _ rfl w.heap.size _ (T.take k) rfl (HO3.out.alloc _) ⟨w3.heap.size,0,none⟩ 1 rfl s (by simp [Addr.add]) (by have:=HKL.out;omega) (by have:=HB3.out.size;simp;omega) ?_)
         intro g cap w4 ho4 hg4;have HB4:Hid (Below w.heap.size w w4):=(HB3.out.alloc HB3.out.size _).grown hg4 (by have:=HB3.out.size;simp;omega) (fun g hg=>(HO3.out.lt g hg).1);rw [HTK.out] at ho4;have HO4:=Lib.hid ho4;clear ho4 hg4;go_wp2;go_roundw
         case rel=>exact ⟨k+1,by omega,by go_num,HO4.out,HB4.out⟩
         case measure=>simp [intOf];omega
       · obtain rfl:k=m:=by omega
         have hTk:T.take k=T:=List.take_of_length_le (by rw [HM.out];exact Nat.le_refl _);rw [hTk] at HO g1;obtain ⟨wp,hwp⟩:∃ wp,wp=wr:=⟨_,rfl⟩;rw [←hwp] at HO HB g1 ⊢;have G1:=Lib.hid g1;clear g1 hTk hwp;go_wp2
         go_loopw [9,40] (fun y i wo=>∃ q:Nat,q≤n∧i=.int .i64 q∧ownsS wo wp.heap.size y (outG T (l.take q))∧Below wp.heap.size wp wo) (fun _ i _=>n-(intOf i).toNat)
         case atStart=>exact ⟨0,Nat.zero_le _,rfl,ownsS_nil _ _,Below.refl _ _⟩
         case round =>
           obtain ⟨q,hq,rfl,hos,hbel⟩:=hrel;have HO2:=Lib.hid hos;have HBO:=Lib.hid hbel;clear hos hbel;by_cases hlt2:q<n
           · obtain ⟨z, hz⟩ : ∃ z, l[q]? = some z := ⟨l[q]'(by have := HN.out; omega), List.getElem?_eq_getElem _⟩;obtain ⟨b2,o2,rfl,hb2,p2⟩:=F2.out q z hz;obtain ⟨z0,z1⟩:=HI.out z (List.mem_of_getElem? hz);obtain ⟨j,rfl⟩:∃ j:Nat,z=j:=⟨z.toNat,by omega⟩;have hjm:j<k:=by omega
             obtain ⟨s, hs⟩ : ∃ s, T[j]? = some s := ⟨T[j]'(by have := HM.out; omega), List.getElem?_eq_getElem _⟩;obtain ⟨b3,o3,rfl,hb3,p3⟩:=G1.out j s hs;have HBW:=Lib.hid (HB.out.trans (HBO.out.mono HB.out.size));have q2:=(HBW.out.cell (p:=⟨b2,o2+q,none⟩) hb2).trans p2;have q3:=(HBO.out.cell (p:=⟨b3,o3+j,none⟩) hb3).trans p3;have HX:=Lib.hid (outG_snoc hz hs);have hz2:(outG T (l.take q)).length=q:=by unfold outG;rw [List.length_map,List.length_take];have:=HN.out;omega
             have HZ2:=Lib.hid hz2;clear p2 p3 hz hs z0 z1 hz2;go_wp2_with (at_builtin;refine wpList_append_str rfl _ _ rfl wp.heap.size _ (outG T (l.take q)) rfl (HO2.out.alloc _) ⟨wr.heap.size,0,none⟩ 1 rfl s (by simp [Addr.add]) (by have:=HZ2.out;omega) (by have:=HBO.out.size;simp;omega) ?_)
             intro g cap w4 ho4 hg4;have HB4:Hid (Below wp.heap.size wp w4):=(HBO.out.alloc HBO.out.size _).grown hg4 (by have:=HBO.out.size;simp;omega) (fun g hg=>(HO2.out.lt g hg).1);rw [←HX.out] at ho4;have HO4:=Lib.hid ho4;clear ho4 hg4;go_wp2;go_roundw
             case rel=>exact ⟨q+1,by omega,by go_num,HO4.out,HB4.out⟩
             case measure=>simp [intOf];omega
           · obtain rfl:q=n:=by omega
             have hlk:l.take q=l:=List.take_of_length_le (by rw [HN.out];exact Nat.le_refl _);have HO3:=Lib.hid (show ownsS wr wp.heap.size _ (outG T l) from hlk ▸ HO2.out);clear hlk;go_wp2;go_ret2;rw [HR.out];exact ⟨_,_,rfl,HO3.out.mono HB.out.size,.inl (.inl ⟨rfl,rfl⟩),HB.out.trans (HBO.out.mono HB.out.size)⟩
   · obtain ⟨t,x,rfl⟩:=he.iface h1;have HR:Hid (listF T l=([],ordG m 0 l 0)):=Lib.hid (by rw [HM.out];exact listF_ord H0.out (by rw [←HM.out];exact h1));have HE:=Lib.hid he;clear he hb2;go_wp2;go_ret2;rw [HR.out];exact ⟨_,_,rfl,ownsS_nil _ _,HE.out,HB2.out⟩
 · have he2:anyErr w1 err (dupR T):=.inl he;obtain ⟨t,x,rfl⟩:=he2.iface h0;have HR:Hid (listF T l=([],dupR T)):=Lib.hid (listF_dup h0);have HE:=Lib.hid he2;have HB1:=Lib.hid hb1;clear he he2 hb1;go_wp2;go_ret2;rw [HR.out];exact ⟨_,_,rfl,ownsS_nil _ _,HE.out,HB1.out⟩
end Go.Proofs.YtgfinhehgfbdgaaGreatDoor
namespace Go.Proofs.YtgfinhehgfbdgaaGreatDoor
open Go.RowKit
def tailF (T R K:Int) (key val:ByteArray) (N:Int):ByteArray×Nat:=if wriE T R K key val N=0 then (tailB K val N,0) else (⟨#[]⟩,wriE T R K key val N)
theorem tailF_bad {T R K:Int} {key val:ByteArray} {N:Int} (h:wriE T R K key val N≠0):tailF T R K key val N=(⟨#[]⟩,wriE T R K key val N):=if_neg h
theorem tailF_ok {T R K:Int} {key val:ByteArray} {N:Int} (h:wriE T R K key val N=0):tailF T R K key val N=(tailB K val N,0):=if_pos h
theorem errV_bad {e:Nat} (h:e≠0):errV e=.iface 27 (.int .i64 e):=by unfold errV;rw [if_neg h]
theorem zigN_of {N:Int} (h0 : -1125899906842624≤N) (h1:N≤1125899906842624):0≤zigN N∧zigN N≤2251799813685249:=by unfold zigN;split <;> omega
theorem numB_size {K N:Int} (h:fitsN K N=true):(numB K N).size≤10:=by
 unfold numB;unfold fitsN at h;by_cases h3:K=3
 · rw [if_pos h3] at h ⊢;simp only [Bool.and_eq_true,decide_eq_true_eq] at h
   have:=zigN_of h.1 h.2;rw [bs_size];exact putL_le10 (by omega)
 · rw [if_neg h3] at h ⊢;by_cases h4:K=4
   · rw [if_pos h4] at h ⊢;simp only [Bool.and_eq_true,decide_eq_true_eq] at h
     rw [bs_size];exact putL_le10 (by omega)
   · rw [if_neg h4];decide
theorem spanB_le {s:ByteArray} (h:s.size≤300):(spanB s).size≤310:=by
 rw [spanB_size];have:=putL_le10 (n:=s.size) (by omega);omega
set_option maxRecDepth 100000 in
set_option maxHeartbeats 1000000 in
theorem wnum_any (T R K:Int) (key val:ByteArray) (N:Int) (w:World) (h:fitsN K N=true) :
   Calls Tryz.prog 171 #[.agg #[.int .i64 T,.int .i64 R,.int .i64 K,.string key,.string val,.int .i64 N]] w fun e w'=>e=.returned (.string (numB K N))∧Below w.heap.size w w':=by
 unfold numB;unfold fitsN at h;by_cases h3:K=3
 · subst h3;rw [if_pos rfl] at h ⊢;simp only [Bool.and_eq_true,decide_eq_true_eq] at h
   obtain ⟨z0,z1⟩:=zigN_of h.1 h.2;obtain ⟨n0,n1⟩:=h;go_enter Tryz.func171,Tryz.ntmps171
   go_wp2_with fail
   refine (zig_any N _ (by omega) (by omega)).mono ?_;rintro r w' ⟨rfl,rfl⟩;go_wp2_with fail
   refine (put_any (zigN N) _ z0 (by omega)).mono ?_;rintro r w2 ⟨rfl,hb2⟩;have HB2:=Lib.hid (((Below.refl _ _).alloc (Nat.le_refl _) _).trans (hb2.mono (by simp)));clear hb2;go_wp2;go_ret;exact ⟨rfl,HB2.out⟩
 · rw [if_neg h3] at h ⊢;have b1:(K == 3)=false:=by simpa using h3
   by_cases h4:K=4
   · subst h4;rw [if_pos rfl] at h ⊢;simp only [Bool.and_eq_true,decide_eq_true_eq] at h
     obtain ⟨n0,n1⟩:=h;have hw:IntKind.u64.wrap N=N:=IntWalk.u64_in N ⟨by omega,by omega⟩;go_enter Tryz.func171,Tryz.ntmps171
     go_wp2_with fail
     refine (put_any N _ n0 (by omega)).mono ?_;rintro r w2 ⟨rfl,hb2⟩;have HB2:=Lib.hid (((Below.refl _ _).alloc (Nat.le_refl _) _).trans (hb2.mono (by simp)));clear hb2;go_wp2;go_ret;exact ⟨rfl,HB2.out⟩
   · rw [if_neg h4];have b4:(K == 4)=false:=by simpa using h4
     go_enter Tryz.func171,Tryz.ntmps171
     go_wp2;go_ret;exact ⟨rfl,(Below.refl _ _).alloc (Nat.le_refl _) _⟩
def textV (r:ByteArray×Nat):Value:=.tuple #[.string r.1,errV r.2]
set_option maxRecDepth 100000 in
set_option maxHeartbeats 4000000 in
theorem wtail_any (T R K:Int) (key val:ByteArray) (N:Int) (w:World) (hk:key.size≤140737488351232) (hv:val.size≤140737488351232) :
   Calls Tryz.prog 118 #[.agg #[.int .i64 T,.int .i64 R,.int .i64 K,.string key,.string val,.int .i64 N]] w fun e w'=>e=.returned (textV (tailF T R K key val N))∧Below w.heap.size w w':=by
 have HN0:=Lib.hid (wrAt_new w T R K key val N 61);obtain ⟨E,hE⟩:∃ E,wriE T R K key val N=E:=⟨_,rfl⟩;have HE:=Lib.hid hE;clear hE;go_enter Tryz.func118,Tryz.ntmps118
 go_wp2_with fail
 refine (wright_any T R K key val N _ hk hv).mono ?_;rintro r w1 ⟨rfl,hb1⟩;rw [HE.out];have HA1:=Lib.hid (HN0.out.below hb1 (by simp));have HB1:=Lib.hid (((Below.refl _ _).alloc (Nat.le_refl _) _).trans (hb1.mono (by simp)));have HL1:Hid (w.heap.size<w1.heap.size):=Lib.hid (by have:=hb1.size;simp at this;exact this);clear hb1;by_cases h0:E=0
 · subst h0;have HT:=Lib.hid (tailF_ok HE.out);obtain ⟨g1,g2,g3,g4,g5,g6⟩:=wriE_good HE.out;have G6:=Lib.hid g6;have G4:=Lib.hid g4;clear g1 g2 g3 g5 g6;obtain ⟨c0,c1,c2,c3,c4,c5⟩:=HA1.out;rw [show errV 0=Value.nilIface from rfl];go_wp2_with fail
   refine (wnum_any T R K key val N _ G6.out).mono ?_;rintro r w2 ⟨rfl,hb2⟩;have HA2:=Lib.hid (HA1.out.below hb2 HL1.out);have HB2:=Lib.hid (HB1.out.trans (hb2.mono (Nat.le_of_lt HL1.out)));have hp:=numB_size G6.out;obtain ⟨P,hP⟩:∃ P,numB K N=P:=⟨_,rfl⟩;rw [hP] at hp ⊢;have HP:=Lib.hid hP;clear hb2 c0 c1 c2 c3 c4 c5 hP;obtain ⟨c0,c1,c2,c3,c4,c5⟩:=HA2.out;cases hV:hasV K with
   | false =>
     have HR:Hid (tailB K val N=P):=Lib.hid (show _=_ by
       unfold tailB valB;rw [HP.out,hV,if_neg (by decide)];exact bs_ext (by rw [app_data];simp))
     go_wp2_with (go_at_call 158;refine (hasv_any K false _ hV).mono ?_;rintro r w3 ⟨rfl,rfl⟩)
     go_ret2;rw [HT.out,HR.out];exact ⟨rfl,HB2.out⟩
   | true =>
     have HR:Hid (tailB K val N=P++spanB val):=Lib.hid (show _=_ by unfold tailB valB;rw [HP.out,hV,if_pos rfl]);have hs:=spanB_le g4;obtain ⟨S,hS⟩:∃ S,spanB val=S:=⟨_,rfl⟩;rw [hS] at hs HR;have HS:=Lib.hid hS;clear hS;go_wp2_with (first
       | (go_at_call 158;refine (hasv_any K true _ hV).mono ?_;rintro r w3 ⟨rfl,rfl⟩)
       | (go_at_call 115;refine (sput_ok val _ (Nat.le_trans G4.out (by decide))).mono ?_;rintro r w4 ⟨rfl,hb4⟩;have HB4:=Lib.hid (HB2.out.trans (hb4.mono HB2.out.size));clear hb4;rw [HS.out]))
     go_ret2;rw [HT.out,HR.out];exact ⟨rfl,HB4.out⟩
 · have HT:=Lib.hid (tailF_bad (by rw [HE.out];exact h0));rw [errV_bad h0];go_wp2;go_ret2;rw [HT.out,HE.out];refine ⟨?_,HB1.out⟩;show _=Ending.returned (.tuple #[.string ⟨#[]⟩,errV E])
   rw [errV_bad h0]
   rfl
end Go.Proofs.YtgfinhehgfbdgaaGreatDoor
namespace Go.Proofs.YtgfinhehgfbdgaaGreatDoor
open Go.RowKit
theorem kgood_any (w:World):Calls Tryz.prog 78 #[] w fun e w'=>e=.returned (.agg #[.int .i64 0,.int .i64 (-1)])∧Below w.heap.size w w':=by
 go_enter Tryz.func78,Tryz.ntmps78
 go_wp2;refine bodyPost_ret (v:=.agg #[.int .i64 0,.int .i64 (-1)]) (by simp [results,Tryz.results78,go_sem]) rfl ?_;exact ⟨rfl,(Below.refl _ _).alloc (Nat.le_refl _) _⟩
theorem kbare_any (n:Int) (w:World):Calls Tryz.prog 43 #[.int .i64 n] w fun e w'=>e=.returned (.agg #[.int .i64 n,.int .i64 (-1)])∧Below w.heap.size w w':=by
 go_enter Tryz.func43,Tryz.ntmps43
 go_wp2;refine bodyPost_ret (v:=.agg #[.int .i64 n,.int .i64 (-1)]) (by simp [results,Tryz.results43,go_sem]) rfl ?_;exact ⟨rfl,(Below.refl _ _).alloc (Nat.le_refl _) _⟩
def RListIs (w:World) (r:List ByteArray×Nat×Int) (e:Ending) (w':World):Prop :=
 ∃ v,e=.returned (.tuple #[v,.agg #[.int .i64 (r.2.1:Nat),.int .i64 r.2.2]])∧ownsS w' w.heap.size v r.1∧Below w.heap.size w w'
def fault0 (w:World):World:=w.alloc (.cells #[.int .i64 0,.int .i64 0] 29)
theorem fault0_size (w:World):(fault0 w).heap.size=w.heap.size+1:=by simp [fault0]
theorem fault0_cells {w wr:World} (h:Below (w.heap.size+1) (fault0 w) wr):wr.cell? ⟨w.heap.size,0,none⟩=some (.int .i64 0)∧wr.cell? ⟨w.heap.size,1,none⟩=some (.int .i64 0)∧wr.frozen? ⟨w.heap.size,0,none⟩=false∧wr.frozen? ⟨w.heap.size,1,none⟩=false :=
 ⟨(h.cell (by exact Nat.lt_succ_self _)).trans (by simp [fault0]),(h.cell (by exact Nat.lt_succ_self _)).trans (by simp [fault0]),(h.frozen (by exact Nat.lt_succ_self _)).trans (by simp [fault0]),(h.frozen (by exact Nat.lt_succ_self _)).trans (by simp [fault0])⟩
theorem fault0_below {w wr:World} (h:Below (w.heap.size+1) (fault0 w) wr) (e p:Value):Below w.heap.size w ((wr.setCell ⟨w.heap.size,0,none⟩ e).setCell ⟨w.heap.size,1,none⟩ p) :=
 (((Below.refl _ _).alloc (Nat.le_refl _) _).trans ((h.mono (Nat.le_succ _)).setCell (Nat.le_refl _) _)).setCell (Nat.le_refl _) _
theorem take_not {T:List ByteArray} {s x:ByteArray} {q:Nat} (h:s ∉ T.take q) (hx:T[q]? = some x) (hn:x≠s):s ∉ T.take (q+1):=by
 obtain ⟨hq,e⟩:=List.getElem?_eq_some_iff.1 hx;rw [←List.take_append_getElem hq,e];simp only [List.mem_append,List.mem_singleton,not_or]
 exact ⟨h,fun e=>hn e.symm⟩
theorem take_in {T:List ByteArray} {s:ByteArray} {q k:Nat} (hx:T[q]? = some s) (hq:q<k):s∈T.take k :=
 List.mem_of_getElem? (i:=q) (by rw [List.getElem?_take_of_lt hq];exact hx)
set_option maxRecDepth 100000 in
set_option maxHeartbeats 4000000 in
theorem rlist_any (v u:Value) (T:List ByteArray) (l:List Int) (w:World) (hv:IsTexts w v T) (hu:IsNums w u l) (hT:T.length≤1000000) (hl:l.length≤1000000) :
   Calls Tryz.prog 94 #[v,u] w (RListIs w (listF T l)):=by
 have hv0:IsTexts (fault0 w) v T:=hv.alloc _;have hu0:IsNums (fault0 w) u l:=hu.alloc _;obtain ⟨a1,c1,rfl,_,f1⟩:=hv0;obtain ⟨a2,c2,rfl,_,f2⟩:=hu0;rw [fault0_size] at f1 f2;have F1:=Lib.hid f1;have F2:=Lib.hid f2;obtain ⟨m,hm⟩:∃ m,m=T.length:=⟨_,rfl⟩;obtain ⟨n,hn⟩:∃ n,n=l.length:=⟨_,rfl⟩;rw [←hm] at hT ⊢;rw [←hn] at hl ⊢;have HM:=Lib.hid hm;have HN:=Lib.hid hn;clear f1 f2 hm hn hv hu;go_enter Tryz.func94,Tryz.ntmps94
 go_wp2
 go_loopw [14] (fun i wr=>∃ k:Nat,k≤m∧i=.int .i64 k∧dupG [] T 0=dupG (T.take k) (T.drop k) k∧Below (w.heap.size+1) (fault0 w) wr) (fun i _=>m-(intOf i).toNat)
 case atStart=>exact ⟨0,Nat.zero_le _,rfl,rfl,Below.refl _ _⟩
 case round =>
   obtain ⟨k,hk,rfl,hd,hbel⟩:=hrel;have HD:=Lib.hid hd;have HB:=Lib.hid hbel;obtain ⟨wp,hwp⟩:∃ wp,wp=wr:=⟨_,rfl⟩;rw [←hwp] at HB ⊢;clear hd hbel hwp;by_cases hlt:k<m
   · obtain ⟨s, hs⟩ : ∃ s, T[k]? = some s := ⟨T[k]'(by have := HM.out; omega), List.getElem?_eq_getElem _⟩;have HS:=Lib.hid hs;clear hs;go_wp2
     go_loopw [18] (fun i wo=>∃ q:Nat,q≤k∧i=.int .i64 q∧s ∉ T.take q∧Below (w.heap.size+1) (fault0 w) wo) (fun i _=>k-(intOf i).toNat)
     case atStart=>exact ⟨0,Nat.zero_le _,rfl,by simp,HB.out⟩
     case round =>
       obtain ⟨q,hq,rfl,hnot,hbel⟩:=hrel;have HBO:=Lib.hid hbel;have HNOT:=Lib.hid hnot;clear hbel hnot;by_cases hlt2:q<k
       · obtain ⟨x, hx⟩ : ∃ x, T[q]? = some x := ⟨T[q]'(by have := HM.out; omega), List.getElem?_eq_getElem _⟩;obtain ⟨b1,o1,rfl,hb1,p0⟩:=F1.out q x hx;obtain ⟨b2,o2,e2,_,p1⟩:=F1.out k s HS.out;simp only [Option.some.injEq,Addr.mk.injEq,and_true] at e2
         obtain ⟨rfl,rfl⟩:=e2;have q0:=(HBO.out.cell (p:=⟨b1,o1+q,none⟩) hb1).trans p0;have q1:=(HBO.out.cell (p:=⟨b1,o1+k,none⟩) hb1).trans p1;obtain ⟨c0,c1',f0,f1⟩:=fault0_cells HBO.out;by_cases he:x=s
         · have HR:Hid (listF T l=([],9,(k:Int))):=Lib.hid (show _=_ by unfold listF;rw [HD.out,dupG_hit HS.out (take_in (he ▸ hx) hlt2)]);subst he;have hb:=beq_same x;clear p0 p1 hx HNOT;go_wp2
           go_quiet (fail)
           obtain ⟨wq,hwq⟩:∃ wq,wq=World.drewN wr nq:=⟨_,rfl⟩;rw [←hwq];have HBQ:Hid (Below (w.heap.size+1) (fault0 w) wq):=Lib.hid (by rw [hwq];exact HBO.out.trans ⟨rfl,rfl,rfl,Nat.le_refl _,fun _ _=>rfl⟩);clear hwq c0 c1' f0 f1 q0 q1;obtain ⟨d0,d1,g0,g1⟩:=fault0_cells HBQ.out;go_wp2;refine bodyPost_ret (v:=.tuple #[.slice none 0 0,.agg #[.int .i64 9,.int .i64 k]]) (by simp [results,Tryz.results94,go_sem,d0,d1]) rfl ?_;rw [HR.out];exact ⟨_,rfl,ownsS_nil _ _,fault0_below HBQ.out _ _⟩
         · have HNOT2:=Lib.hid (take_not HNOT.out hx he);have hb:=beq_diff he;clear p0 p1 hx HNOT c0 c1' f0 f1;go_wp2
           go_quiet (fail)
           obtain ⟨wq,hwq⟩:∃ wq,wq=World.drewN wr nq:=⟨_,rfl⟩;rw [←hwq];have HBQ:Hid (Below (w.heap.size+1) (fault0 w) wq):=Lib.hid (by rw [hwq];exact HBO.out.trans ⟨rfl,rfl,rfl,Nat.le_refl _,fun _ _=>rfl⟩);clear hwq q0 q1;go_wp2;go_roundw
           case rel=>exact ⟨q+1,by omega,by go_num,HNOT2.out,HBQ.out⟩
           case measure=>simp [intOf];omega
       · obtain rfl:q=k:=by omega
         have HD2:=Lib.hid (HD.out.trans (dupG_miss HS.out HNOT.out));go_wp2;go_roundw
         case rel=>exact ⟨q+1,by omega,by go_num,HD2.out,HBO.out⟩
         case measure=>simp [intOf];omega
   · obtain rfl:k=m:=by omega
     have HDN:Hid (dupG [] T 0=none):=Lib.hid (show _=_ by rw [HD.out,List.drop_eq_nil_of_le (by rw [HM.out];exact Nat.le_refl _)];rfl);have HLE:Hid (∀ e p,ordG k 0 l 0=(e,p)→e≠0→listF T l=([],e,p)):=Lib.hid (show _ by
       intro e p h he;unfold listF;rw [HDN.out,←HM.out,h];simp only [if_neg he])
     have HLO:Hid ((ordG k 0 l 0).1=0→listF T l=(outG T l,0,-1)):=Lib.hid (show _ by
       intro h;unfold listF;rw [HDN.out,←HM.out];simp only [if_pos h])
     have hmm:=@run_makeMap Tryz.prog;obtain ⟨M,hM⟩:∃ M,M=wp.heap.size:=⟨_,rfl⟩;have HMS:=Lib.hid hM;have HBM:Hid (w.heap.size+1≤M):=Lib.hid (by rw [hM];have:=HB.out.size;rw [fault0_size] at this;exact this);clear hM;go_wp2
     go_loopw [8,37] (fun x i wo=>∃ q told:Nat,q≤n∧told≤q∧i=.int .i64 q∧ordG k 0 l 0=ordG k told (l.drop q) q∧ownsTold wo wp.heap.size q told∧ownsS wo (M+1) x (outG T (l.take q))∧M+1≤wo.heap.size∧Below (w.heap.size+1) (fault0 w) wo) (fun _ i _=>n-(intOf i).toNat)
     case atStart=>exact ⟨0,0,Nat.zero_le _,Nat.le_refl _,rfl,rfl,ownsTold_made _,ownsS_nil _ _,by rw [HMS.out];simp,HB.out.alloc (by have:=HB.out.size;rw [fault0_size] at this;exact this) _⟩
     case round =>
       obtain ⟨q,told,hq,htq,rfl,hd,hmap,hos,hz,hbel⟩:=hrel;have HO2:=Lib.hid hd;have HMP:=Lib.hid hmap;have HOS:=Lib.hid hos;have HZ:=Lib.hid hz;have HBO:=Lib.hid hbel;clear hd hmap hos hz hbel;by_cases hlt:q<n
       · obtain ⟨z, hz⟩ : ∃ z, l[q]? = some z := ⟨l[q]'(by have := HN.out; omega), List.getElem?_eq_getElem _⟩;obtain ⟨b2,o2,rfl,hb2,p2⟩:=F2.out q z hz;have q2:=(HBO.out.cell (p:=⟨b2,o2+q,none⟩) hb2).trans p2;obtain ⟨c0,c1',f0,f1⟩:=fault0_cells HBO.out;have HC:=Lib.hid (And.intro c0 (And.intro c1' (And.intro f0 f1)));by_cases hr:z<0∨(k:Int)≤z
         · have HR:=Lib.hid (HLE.out 2 q (HO2.out.trans (ordG_range hz hr)) (by decide));clear p2 hz c0 c1' f0 f1;go_wp2_with fail
           have hw:Calls Tryz.prog 52 #[.int .i64 z,.int .i64 0,.int .i64 ((k:Int)-1)] wr fun e w'=>e=.returned (.bool false)∧wr=w':=by
             by_cases h0:z<0
             · exact within_low z 0 _ wr h0
             · exact within_high z 0 _ wr (by omega) (by omega)
           refine hw.mono ?_;rintro r w3 ⟨rfl,rfl⟩;obtain ⟨c0,c1',f0,f1⟩:=HC.out;clear hw;go_wp2;refine bodyPost_ret (v:=.tuple #[.slice none 0 0,.agg #[.int .i64 2,.int .i64 q]]) (by simp [results,Tryz.results94,go_sem,c0,c1']) rfl ?_;rw [HR.out];exact ⟨_,rfl,ownsS_nil _ _,fault0_below HBO.out _ _⟩
         · have z0:¬ z<0:=by omega
           have z1:¬ (k:Int)≤z:=by omega
           obtain ⟨j,rfl⟩:∃ j:Nat,z=j:=⟨z.toNat,by omega⟩;have hjk:j<k:=by omega
           have hj6:j≤1000000:=by omega
           by_cases hf:(told:Int)<(j:Int)
           · have HR:=Lib.hid (HLE.out 13 q (HO2.out.trans (ordG_false hz hr hf)) (by decide));clear p2 hz c0 c1' f0 f1 hr z0 z1;go_wp2_with fail
             refine (within_yes (j:Int) 0 ((k:Int)-1) wr (by omega) (by omega)).mono ?_;rintro r w3 ⟨rfl,rfl⟩;obtain ⟨c0,c1',f0,f1⟩:=HC.out;go_wp2_with (at_len;refine wpList_told_len rfl _ rfl wp.heap.size q told rfl HMP.out ?_)
             refine bodyPost_ret (v:=.tuple #[.slice none 0 0,.agg #[.int .i64 13,.int .i64 q]]) (by simp [results,Tryz.results94,go_sem,c0,c1']) rfl ?_;rw [HR.out];exact ⟨_,rfl,ownsS_nil _ _,fault0_below HBO.out _ _⟩
           · have htn : ordG k told (l.drop q) q = ordG k (if j = told then told + 1 else told) (l.drop (q + 1)) (q + 1) := by
               by_cases he:j=told
               · rw [if_pos he];exact ordG_new hz hr (by omega)
               · rw [if_neg he];exact ordG_old hz hr (by omega)
             have HO3:=Lib.hid (HO2.out.trans htn);obtain ⟨s, hs⟩ : ∃ s, T[j]? = some s := ⟨T[j]'(by have := HM.out; omega), List.getElem?_eq_getElem _⟩;obtain ⟨b3,o3,rfl,hb3,p3⟩:=F1.out j s hs;have HX:=Lib.hid (outG_snoc hz hs);have hz2:(outG T (l.take q)).length=q:=by unfold outG;rw [List.length_map,List.length_take];have:=HN.out;omega
             have HZ2:=Lib.hid hz2;have HP3:=Lib.hid p3;have HB3:=Lib.hid hb3;clear p2 hz c0 c1' f0 f1 hr z0 z1 htn hs hz2 p3 hb3;go_wp2_with fail
             refine (within_yes (j:Int) 0 ((k:Int)-1) wr (by omega) (by omega)).mono ?_;rintro r w3 ⟨rfl,rfl⟩;have hjt:j≤told:=by omega
             go_wp2_with (first
               | (at_len;refine wpList_told_len rfl _ rfl wp.heap.size q told rfl HMP.out ?_)
               | (at_mapUpdate;refine wpList_told_put rfl _ _ _ rfl wp.heap.size q told rfl HMP.out (by unfold maxLen;omega) j hjt (by omega) rfl rfl ?_;intro w4 hm4 hg4;obtain ⟨t2,ht2⟩:∃ t2,(if j=told then told+1 else told)=t2:=⟨_,rfl⟩;rw [ht2] at hm4 HO3;have HM4:=Lib.hid hm4;have HS4:=Lib.hid (show ownsS w4 (M+1) _ (outG T (l.take q)) from World.ownsRow.kept HOS.out hg4 (.inr (HOS.out.off (by rw [HMS.out];exact Nat.lt_succ_self _))));have HB4:Hid (Below (w.heap.size+1) (fault0 w) w4):=Lib.hid (HBO.out.grown hg4 (by have:=HBO.out.size;rw [fault0_size] at this;exact this) (fun g hg=>by cases hg;rw [←HMS.out];exact HBM.out));have HZ4:Hid (M+1≤w4.heap.size):=Lib.hid (Nat.le_trans HZ.out hg4.size);have q3:w4.cell? ⟨b3,o3+j,none⟩=some (.string s):=(HB4.out.cell (p:=⟨b3,o3+j,none⟩) HB3.out).trans HP3.out;clear hm4 hg4)
               | (at_builtin;refine wpList_append_str rfl _ _ rfl (M+1) _ (outG T (l.take q)) rfl (HS4.out.alloc _) ⟨w4.heap.size,0,none⟩ 1 rfl s (by simp [Addr.add]) (by have:=HZ2.out;omega) (by have:=HZ4.out;simp;omega) ?_))
             intro g cap w5 ho5 hg5;have HB5:Hid (Below (w.heap.size+1) (fault0 w) w5):=Lib.hid ((HB4.out.alloc (by have:=HB4.out.size;rw [fault0_size] at this;exact this) _).grown hg5 (by have:=HZ4.out;have:=HBM.out;simp;omega) (fun g hg=>by have:=(HS4.out.lt g hg).1;have:=HBM.out;omega));have HM5:Hid (ownsTold w5 wp.heap.size (q+1) t2):=Lib.hid ((HM4.out.alloc _).kept hg5 (by intro e;exact HS4.out.off (by rw [HMS.out];exact Nat.lt_succ_self _) e.symm));have HZ5:Hid (M+1≤w5.heap.size):=Lib.hid (by show _≤_;have:=HZ4.out;have:=hg5.size;simp at this;omega);rw [←HX.out] at ho5;have HS5:=Lib.hid ho5;have ht3:t2≤q+1:=by rw [←ht2];split <;> omega
             have HT3:=Lib.hid ht3;clear ho5 hg5 ht2 ht3;go_wp2;go_roundw
             case rel=>exact ⟨q+1,t2,by omega,HT3.out,by go_num,HO3.out,HM5.out,HS5.out,HZ5.out,HB5.out⟩
             case measure=>simp [intOf];omega
       · obtain rfl:q=n:=by omega
         have hlk:l.take q=l:=List.take_of_length_le (by rw [HN.out];exact Nat.le_refl _);have HO3:=Lib.hid (show ownsS wr (M+1) _ (outG T l) from hlk ▸ HOS.out);have HE:Hid (ordG k 0 l 0=if told<k then (8,-1) else (0,-1)):=Lib.hid (show _=_ by rw [HO2.out,List.drop_eq_nil_of_le (by rw [HN.out];exact Nat.le_refl _)];rfl);have hlt0:w.heap.size<wr.heap.size:=by have:=HZ.out;have:=HBM.out;omega
         have HL0:=Lib.hid hlt0;clear hlk hlt0;by_cases ht:told<k
         · have HR:=Lib.hid (HLE.out 8 (-1) (by rw [HE.out,if_pos ht]) (by decide));go_wp2_with (at_len;refine wpList_told_len rfl _ rfl wp.heap.size q told rfl HMP.out ?_)
           refine (kbare_any 8 _).mono ?_;rintro r w5 ⟨rfl,hb5⟩;have HB5:=Lib.hid (HBO.out.trans (hb5.mono (Nat.succ_le_of_lt HL0.out)));clear hb5;obtain ⟨c0,c1',f0,f1⟩:=fault0_cells HB5.out;go_wp2;refine bodyPost_ret (v:=.tuple #[.slice none 0 0,.agg #[.int .i64 8,.int .i64 (-1)]]) (by simp [results,Tryz.results94,go_sem,c0,c1']) rfl ?_;rw [HR.out];exact ⟨_,rfl,ownsS_nil _ _,fault0_below HB5.out _ _⟩
         · have HR:=Lib.hid (HLO.out (by rw [HE.out,if_neg ht]));go_wp2_with (at_len;refine wpList_told_len rfl _ rfl wp.heap.size q told rfl HMP.out ?_)
           refine (kgood_any _).mono ?_;rintro r w5 ⟨rfl,hb5⟩;have HB5:=Lib.hid (HBO.out.trans (hb5.mono (Nat.succ_le_of_lt HL0.out)));have HO5:=Lib.hid (HO3.out.below hb5);clear hb5;obtain ⟨c0,c1',f0,f1⟩:=fault0_cells HB5.out;go_wp2;refine bodyPost_ret (v:=.tuple #[_,.agg #[.int .i64 0,.int .i64 (-1)]]) (by simp [results,Tryz.results94,go_sem,c0,c1'];rfl) rfl ?_;rw [HR.out];exact ⟨_,rfl,(show ownsS _ _ _ _ from ownsRow_setCell_below (ownsRow_setCell_below HO5.out (by show w.heap.size<M+1;have:=HBM.out;omega) _) (by show w.heap.size<M+1;have:=HBM.out;omega) _).mono (by have:=HBM.out;omega),fault0_below HB5.out _ _⟩
end Go.Proofs.YtgfinhehgfbdgaaGreatDoor
