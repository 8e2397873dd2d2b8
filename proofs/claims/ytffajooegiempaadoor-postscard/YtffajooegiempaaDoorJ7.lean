import Derived.Test.YtffajooegiempaaDoorJ6
import Derived.Deep.RegionWith
/- How low the document's bounds get: a table. No Go in here. -/
namespace Go.Proofs.YtffajooegiempaaDoor

/-- How often a first bound may stand in each bound, one step further. -/
def tst (T : List Nat) (f g : Nat) : List Nat :=
  if kdT f g = 2 then (if (T.getD f 0 + T.getD g 0 + 1) / 2 ≤ T.getD (nmT f g) 0 then T else T.set (nmT f g) ((T.getD f 0 + T.getD g 0 + 1) / 2))
  else if kdT f g = 3 then (if T.getD f 0 + T.getD g 0 ≤ T.getD (nmT f g) 0 then T else T.set (nmT f g) (T.getD f 0 + T.getD g 0))
  else T
/-- The table behind each 128 steps. -/
def tbL : List (List Nat) := [[1, 1, 1, 1, 1, 1, 1, 1, 1, 1, 1, 1, 1, 1, 1, 1, 1, 1, 1, 1, 1, 1, 1, 1, 1, 1, 1, 1, 1, 1, 1, 1],
  [7, 7, 3, 3, 9, 9, 9, 9, 4, 8, 4, 9, 2, 2, 3, 3, 2, 2, 3, 3, 6, 6, 7, 7, 6, 6, 7, 7, 1, 1, 1, 1],
  [79, 79, 75, 75, 63, 63, 27, 27, 4, 8, 4, 9, 16, 20, 16, 21, 52, 56, 52, 57, 12, 24, 12, 25, 48, 60, 48, 61, 36, 72, 36, 73],
  [91, 104, 95, 100, 63, 63, 27, 27, 4, 8, 4, 9, 28, 33, 41, 46, 64, 69, 77, 82, 32, 37, 37, 42, 68, 73, 73, 78, 36, 72, 36, 73],
  [165, 252, 95, 100, 206, 211, 27, 27, 65, 70, 152, 157, 28, 33, 41, 46, 138, 143, 225, 230, 106, 111, 111, 116, 68, 73, 73, 78, 179, 184, 184, 189],
  [533, 988, 95, 100, 206, 211, 758, 763, 433, 438, 888, 893, 322, 327, 777, 782, 138, 143, 225, 230, 106, 111, 111, 116, 658, 663, 663, 668, 547, 552, 552, 557],
  [533, 988, 317, 544, 428, 433, 758, 763, 655, 882, 1110, 1337, 766, 771, 1221, 1226, 138, 143, 225, 230, 106, 111, 111, 116, 880, 885, 1107, 1112, 991, 996, 996, 1001],
  [533, 988, 2309, 4528, 428, 433, 3416, 3421, 2647, 4866, 3102, 5321, 766, 771, 1221, 1226, 3754, 3759, 4209, 4214, 1876, 1881, 4095, 4100, 880, 885, 1107, 1112, 2983, 2988, 2988, 2993],
  [533, 988, 2309, 4528, 6404, 12385, 9392, 9397, 2647, 4866, 3102, 5321, 6742, 12723, 7197, 13178, 9730, 9735, 10185, 10190, 7852, 13833, 10071, 16052, 10840, 10845, 13059, 13064, 2983, 2988, 2988, 2993],
  [10412, 10867, 3830, 6049, 17804, 23785, 20792, 20797, 4363, 14940, 4818, 16721, 6937, 12918, 8718, 14699, 9925, 9930, 11706, 11711, 11755, 17736, 19950, 25931, 14743, 14748, 22938, 22943, 2983, 2988, 2988, 2993],
  [176768, 177223, 170186, 172405, 142571, 148552, 62381, 62386, 4363, 14940, 4818, 16721, 28216, 54507, 28671, 56288, 114382, 134697, 114837, 136478, 21634, 59325, 23853, 67520, 107800, 139515, 110019, 147710, 80185, 163368, 86166, 169349],
  [196526, 218065, 201344, 213247, 142571, 148552, 62381, 62386, 4363, 14940, 4818, 16721, 47974, 75591, 69513, 97130, 134140, 155781, 155679, 177320, 52792, 80409, 64695, 92312, 138958, 160599, 150861, 172502, 80185, 163368, 86166, 169349],
  [341630, 508273, 201344, 213247, 411143, 438760, 62381, 62386, 128383, 140286, 295026, 306929, 47974, 75591, 69513, 97130, 279244, 300885, 445887, 467528, 197896, 225513, 209799, 237416, 138958, 160599, 150861, 172502, 348757, 370398, 376374, 398015],
  [1088402, 2001817, 201344, 213247, 411143, 438760, 1534289, 1555930, 875155, 887058, 1788570, 1800473, 649642, 677259, 1563057, 1590674, 279244, 300885, 445887, 467528, 197896, 225513, 209799, 237416, 1321042, 1342683, 1332945, 1354586, 1095529, 1117170, 1123146, 1144787],
  [1088402, 2001817, 636656, 1083871, 846455, 874072, 1534289, 1555930, 1310467, 1757682, 2223882, 2671097, 1520266, 1547883, 2433681, 2461298, 279244, 300885, 445887, 467528, 197896, 225513, 209799, 237416, 1756354, 1777995, 2203569, 2225210, 1966153, 1987794, 1993770, 2015411],
  [1088402, 2001817, 4618220, 9046999, 846455, 874072, 6821789, 6843430, 5292031, 9720810, 6205446, 10634225, 1520266, 1547883, 2433681, 2461298, 7495600, 7517241, 8409015, 8430656, 3744148, 3771765, 8172927, 8200544, 1756354, 1777995, 2203569, 2225210, 5947717, 5969358, 5975334, 5996975],
  [1088402, 2001817, 4618220, 9046999, 12791147, 24763456, 18766481, 18788122, 5292031, 9720810, 6205446, 10634225, 13464958, 25437267, 14378373, 26350682, 19440292, 19461933, 20353707, 20375348, 15688840, 27661149, 20117619, 32089928, 21664174, 21685815, 26092953, 26114594, 5947717, 5969358, 5975334, 5996975],
  [20934059, 21847474, 7708439, 12137218, 35727023, 47699332, 41702357, 41723998, 8796841, 29981058, 9710256, 33570101, 13879549, 25851858, 17468592, 29440901, 19854883, 19876524, 23443926, 23465567, 23589805, 35562114, 39963276, 51935585, 29565139, 29586780, 45938610, 45960251, 5947717, 5969358, 5975334, 5996975],
  [354639479, 355552894, 341413859, 345842638, 286006088, 297978397, 125128712, 125150353, 8796841, 29981058, 9710256, 33570101, 56661082, 109278213, 57574497, 112867256, 229489126, 270155589, 230402541, 273744632, 43435462, 118988469, 47864241, 135361940, 216263506, 279865845, 220692285, 296239316, 160855735, 327730086, 172828044, 339702395],
  [394330793, 437611150, 404041049, 427900894, 286006088, 297978397, 125128712, 125150353, 8796841, 29981058, 9710256, 33570101, 96352396, 151645155, 139632753, 194925512, 269180440, 312522531, 312460797, 355802888, 106062652, 161355411, 129922497, 185215256, 278890696, 322232787, 302750541, 346092632, 160855735, 327730086, 172828044, 339702395],
  [685608701, 1020166966, 404041049, 427900894, 825241454, 880534213, 125128712, 125150353, 257707807, 281567652, 592266072, 616125917, 96352396, 151645155, 139632753, 194925512, 560458348, 603800439, 895016613, 938358704, 397340560, 452633319, 421200405, 476493164, 278890696, 322232787, 302750541, 346092632, 700091101, 743433192, 755383860, 798725951],
  [2184425753, 4017801070, 404041049, 427900894, 825241454, 880534213, 3079442366, 3122784457, 1756524859, 1780384704, 3589900176, 3613760021, 1303891540, 1359184299, 3137266857, 3192559616, 560458348, 603800439, 895016613, 938358704, 397340560, 452633319, 421200405, 476493164, 2651541472, 2694883563, 2675401317, 2718743408, 2198908153, 2242250244, 2254200912, 2297543003],
  [2184425753, 4017801070, 1277874773, 2175568342, 1699075178, 1754367937, 3079442366, 3122784457, 2630358583, 3528052152, 4463733900, 5361427469, 3051558988, 3106851747, 4884934305, 4940227064, 560458348, 603800439, 895016613, 938358704, 397340560, 452633319, 421200405, 476493164, 3525375196, 3568717287, 4423068765, 4466410856, 3946575601, 3989917692, 4001868360, 4045210451],
  [2184425753, 4017801070, 9269660825, 18159140446, 1699075178, 1754367937, 13692729590, 13736071681, 10622144635, 19511624256, 12455519952, 21344999573, 3051558988, 3106851747, 4884934305, 4940227064, 15045213400, 15088555491, 16878588717, 16921930808, 7515292888, 7570585647, 16404772509, 16460065268, 3525375196, 3568717287, 4423068765, 4466410856, 11938361653, 11981703744, 11993654412, 12036996503],
  [2184425753, 4017801070, 9269660825, 18159140446, 25674433334, 49705084249, 37668087746, 37711429837, 10622144635, 19511624256, 12455519952, 21344999573, 27026917144, 51057568059, 28860292461, 52890943376, 39020571556, 39063913647, 40853946873, 40897288964, 31490651044, 55521301959, 40380130665, 64410781580, 43484305456, 43527647547, 52373785077, 52417127168, 11938361653, 11981703744, 11993654412, 12036996503],
  [42017680670, 43851055987, 15471887648, 24361367269, 71709915074, 95740565989, 83703569486, 83746911577, 17656313401, 60176821116, 19489688718, 67380481313, 27858859087, 51889510002, 35062519284, 59093170199, 39852513499, 39895855590, 47056173696, 47099515787, 47348547805, 71379198720, 80213385582, 104244036497, 59342202217, 59385544308, 92207039994, 92250382085, 11938361653, 11981703744, 11993654412, 12036996503],
  [711819604922, 713652980239, 685273811900, 694163291521, 574061358263, 598092009178, 251154050549, 251197392640, 17656313401, 60176821116, 19489688718, 67380481313, 113727595744, 219339991065, 115560971061, 226543651262, 460622212282, 542247298779, 462455587599, 549450958976, 87181802722, 238829679783, 96071282343, 271694517560, 434076419260, 561736987497, 442965898881, 594601825274, 322863965623, 657808269840, 346894616538, 681838920755],
  [791486114756, 878356284787, 810975803474, 858866596069, 574061358263, 598092009178, 251154050549, 251197392640, 17656313401, 60176821116, 19489688718, 67380481313, 193394105578, 304376785779, 280264275609, 391246955810, 540288722116, 627284093493, 627158892147, 714154263524, 212883794296, 323866474497, 260774586891, 371757267092, 559778410834, 646773782211, 607669203429, 694664574806, 322863965623, 657808269840, 346894616538, 681838920755],
  [1376127176144, 2047638407563, 810975803474, 858866596069, 1656391451753, 1767374131954, 251154050549, 251197392640, 517260580075, 565151372670, 1188771811494, 1236662604089, 193394105578, 304376785779, 280264275609, 391246955810, 1124929783504, 1211925154881, 1796441014923, 1883436386300, 797524855684, 908507535885, 845415648279, 956398328480, 559778410834, 646773782211, 607669203429, 694664574806, 1405194059113, 1492189430490, 1516176739314, 1603172110691],
  [4384493345948, 8064370747171, 810975803474, 858866596069, 1656391451753, 1767374131954, 6180934360871, 6267929732248, 3525626749879, 3573517542474, 7205504151102, 7253394943697, 2617119213994, 2728101894195, 6296996615217, 6407979295418, 1124929783504, 1211925154881, 1796441014923, 1883436386300, 797524855684, 908507535885, 845415648279, 956398328480, 5322067764802, 5409063136179, 5369958557397, 5456953928774, 4413560228917, 4500555600294, 4524542909118, 4611538280495],
  [4384493345948, 8064370747171, 2564898987638, 4366712964397, 3410314635917, 3521297316118, 6180934360871, 6267929732248, 5279549934043, 7081363910802, 8959427335266, 10761241312025, 6124965582322, 6235948262523, 9804842983545, 9915825663746, 1124929783504, 1211925154881, 1796441014923, 1883436386300, 797524855684, 908507535885, 845415648279, 956398328480, 7075990948966, 7162986320343, 8877804925725, 8964800297102, 7921406597245, 8008401968622, 8032389277446, 8119384648823],
  [4384493345948, 8064370747171, 18605690233706, 36448295456533, 3410314635917, 3521297316118, 27483495159431, 27570490530808, 21320341180111, 39162946402938, 25000218581334, 42842823804161, 6124965582322, 6235948262523, 9804842983545, 9915825663746, 30198146105836, 30285141477213, 33878023507059, 33965018878436, 15084392917588, 15195375597789, 32926998140415, 33037980820616, 7075990948966, 7162986320343, 8877804925725, 8964800297102, 23962197843313, 24049193214690, 24073180523514, 24160175894891],
  [4384493345948, 8064370747171, 18605690233706, 36448295456533, 51532688374121, 99766044792526, 75605868897635, 75692864269012, 21320341180111, 39162946402938, 25000218581334, 42842823804161, 54247339320526, 102480695738931, 57927216721749, 106160573140154, 78320519844040, 78407515215417, 82000397245263, 82087392616640, 63206766655792, 111440123074197, 81049371878619, 129282728297024, 87279947179306, 87366942550683, 105122552402133, 105209547773510, 23962197843313, 24049193214690, 24073180523514, 24160175894891]]
def tb (c : Nat) : List Nat := tbL.getD c []
def twR (T : List Nat) (s : Nat) : Nat → List Nat
  | 0 => T
  | n + 1 => tst (twR T s n) ((s + n) / 32 % 32) ((s + n) % 32)
set_option maxRecDepth 100000 in
theorem tab_row : ∀ c : Nat, c < 32 → twR (tb c) (c * 128) 128 = tb (c + 1) := by decide +kernel
def twS (m : Nat) : List Nat := twR (tb (m / 128)) (m / 128 * 128) (m % 128)
theorem twS_succ {m : Nat} (hm : m < 4096) : twS (m + 1) = tst (twS m) (m / 32 % 32) (m % 32) := by
  have e : m / 128 * 128 + m % 128 = m := by omega
  have h : twR (tb (m / 128)) (m / 128 * 128) (m % 128 + 1) = tst (twS m) (m / 32 % 32) (m % 32) := by
    show tst (twR _ _ _) ((m / 128 * 128 + m % 128) / 32 % 32) ((m / 128 * 128 + m % 128) % 32) = _
    rw [e]; rfl
  rw [← h]
  by_cases c : m % 128 + 1 < 128
  · unfold twS
    rw [show (m + 1) / 128 = m / 128 by omega, show (m + 1) % 128 = m % 128 + 1 by omega]
  · rw [show m % 128 + 1 = 128 by omega, tab_row (m / 128) (by omega)]
    unfold twS
    rw [show (m + 1) / 128 = m / 128 + 1 by omega, show (m + 1) % 128 = 0 by omega]
    rfl
theorem tst_len (T : List Nat) (f g : Nat) : (tst T f g).length = T.length := by
  unfold tst
  split
  · split
    · rfl
    · exact List.length_set
  · split
    · split
      · rfl
      · exact List.length_set
    · rfl
theorem twS_len : ∀ m, m ≤ 4096 → (twS m).length = 32 := by
  intro m
  induction m with
  | zero => intro _; rfl
  | succ m ih => intro hm; rw [twS_succ (by omega), tst_len]; exact ih (by omega)
theorem getD_set (T : List Nat) (n x c : Nat) (hn : n < T.length) : (T.set n c).getD x 0 = if x = n then c else T.getD x 0 := by
  by_cases e : x = n
  · subst e; simp [List.getD, hn]
  · rw [if_neg e]; simp [List.getD, List.getElem?_set_ne (fun z => e z.symm)]
theorem tst_ge {T : List Nat} (hT : T.length = 32) {f g : Nat} (hf : f < 32) (hg : g < 32) : (∀ x, T.getD x 0 ≤ (tst T f g).getD x 0) ∧ (kdT f g = 2 → T.getD f 0 + T.getD g 0 ≤ 2 * (tst T f g).getD (nmT f g) 0) ∧ (kdT f g = 3 → T.getD f 0 + T.getD g 0 ≤ (tst T f g).getD (nmT f g) 0) := by
  by_cases k2 : kdT f g = 2
  · have hn := nm_lt hf hg (.inl k2)
    unfold tst
    rw [if_pos k2]
    by_cases c : (T.getD f 0 + T.getD g 0 + 1) / 2 ≤ T.getD (nmT f g) 0
    · rw [if_pos c]
      exact ⟨fun _ => Nat.le_refl _, fun _ => by omega, fun k3 => absurd (k2.symm.trans k3) (by decide)⟩
    · rw [if_neg c]
      refine ⟨fun x => ?_, fun _ => ?_, fun k3 => absurd (k2.symm.trans k3) (by decide)⟩
      · rw [getD_set _ _ _ _ (by omega)]
        split
        · rename_i e; rw [e]; omega
        · exact Nat.le_refl _
      · rw [getD_set _ _ _ _ (by omega), if_pos rfl]; omega
  · by_cases k3 : kdT f g = 3
    · have hn := nm_lt hf hg (.inr k3)
      unfold tst
      rw [if_neg k2, if_pos k3]
      by_cases c : T.getD f 0 + T.getD g 0 ≤ T.getD (nmT f g) 0
      · rw [if_pos c]
        exact ⟨fun _ => Nat.le_refl _, fun z => absurd z k2, fun _ => c⟩
      · rw [if_neg c]
        refine ⟨fun x => ?_, fun z => absurd z k2, fun _ => ?_⟩
        · rw [getD_set _ _ _ _ (by omega)]
          split
          · rename_i e; rw [e]; omega
          · exact Nat.le_refl _
        · rw [getD_set _ _ _ _ (by omega), if_pos rfl]
          exact Nat.le_refl _
    · unfold tst
      rw [if_neg k2, if_neg k3]
      exact ⟨fun _ => Nat.le_refl _, fun z => absurd z k2, fun z => absurd z k3⟩
theorem twS_mono (m : Nat) : ∀ k x, m + k ≤ 4096 → (twS m).getD x 0 ≤ (twS (m + k)).getD x 0
  | 0, _, _ => Nat.le_refl _
  | k + 1, x, h => by
    have a := twS_mono m k x (by omega)
    have b := (tst_ge (twS_len (m + k) (by omega)) (show (m + k) / 32 % 32 < 32 by omega) (show (m + k) % 32 < 32 by omega)).1 x
    rw [show m + (k + 1) = (m + k) + 1 by omega, twS_succ (by omega)]
    omega
theorem twS_end : (tb 32).length = 32 ∧ (tb 32).all (fun x => decide (x ≤ 281474976710656)) = true := by decide +kernel
theorem twS_small {m : Nat} (hm : m ≤ 4096) {x : Nat} (hx : x < 32) : (twS m).getD x 0 ≤ 281474976710656 := by
  have h := List.all_eq_true.1 twS_end.2
  have a := twS_mono m (4096 - m) x (by omega)
  have e : twS (m + (4096 - m)) = tb 32 := by rw [show m + (4096 - m) = 4096 by omega]; rfl
  rw [e] at a
  have hl := twS_end.1
  have b := h ((tb 32).getD x 0) (by
    rw [List.getD, List.getElem?_eq_getElem (by omega)]
    exact List.getElem_mem _)
  have := of_decide_eq_true b
  omega
/-- The bounds are no lower than the table says. -/
def TLo (m : Nat) (R : Nat → Int) : Prop := ∀ f, f < 32 → -(4000 * ((twS m).getD f 0 : Int)) ≤ R f
theorem rs1_tlo {m : Nat} (hm : m < 4096) {R : Nat → Int} (h : TLo m R) {b : Bool} {R' : Nat → Int} {b' : Bool} {f g : Nat} (ef : f = m / 32 % 32) (eg : g = m % 32) (e : rs1 R b f g = some (R', b')) : TLo (m + 1) R' := by
  have hf : f < 32 := by omega
  have hg : g < 32 := by omega
  have s := rs1_is R b hf hg
  rw [e] at s
  have hT := tst_ge (twS_len m (by omega)) hf hg
  have hS : twS (m + 1) = tst (twS m) f g := by rw [twS_succ hm, ef, eg]
  cases s with
  | same _ =>
    intro x hx
    have := h x hx
    have := hT.1 x
    rw [hS]
    omega
  | put n c q1 q2 hn en hc hk =>
    intro x hx
    rw [hS]
    unfold upd
    split
    · rename_i ex
      have a := h f hf
      have a' := h g hg
      rcases hk with ⟨k, ec⟩ | ⟨k, ec⟩
      · have := hT.2.1 k
        rw [ex, en, ec]
        omega
      · have := hT.2.2 k
        rw [ex, en, ec]
        omega
    · have := h x hx
      have := hT.1 x
      omega
theorem rF_tlo {r : Nat} (hr : r < 4) {R : Nat → Int} (h : TLo (r * 1024) R) : ∀ k, k ≤ 1024 → ∀ R' b, rF R k = some (R', b) → TLo (r * 1024 + k) R' := by
  intro k
  induction k with
  | zero => intro _ R' b e; rw [rF] at e; cases e; rw [Nat.add_zero]; exact h
  | succ k ih =>
    intro hk R' b e
    rw [rF] at e
    rw [← Nat.add_assoc]
    generalize hp : rF R k = p at e
    match p, hp, e with
    | some (R1, b1), hp, e =>
      exact rs1_tlo (by omega) (ih (by omega) R1 b1 hp) (by omega) (by omega) e
theorem itF_tlo {R : Nat → Int} (h : ∀ f, f < 32 → -4000 ≤ R f) : ∀ n, n ≤ 4 → ∀ R', itF R n = some R' → TLo (n * 1024) R' := by
  intro n
  induction n with
  | zero =>
    intro _ R' e
    cases e
    intro f hf
    have := h f hf
    have : (twS (0 * 1024)).getD f 0 = 1 := (show ∀ f : Nat, f < 32 → (twS (0 * 1024)).getD f 0 = 1 by decide +kernel) f hf
    rw [this]
    omega
  | succ n ih =>
    intro hn R' e
    obtain ⟨R1, b, e1, e2⟩ := itF_succ e
    rw [show (n + 1) * 1024 = n * 1024 + 1024 by omega]
    exact rF_tlo (by omega) (ih (by omega) R1 e1) 1024 (Nat.le_refl _) R' b e2
/-- No sum of two bounds overflows in a round. -/
def Nov (R : Nat → Int) : Prop := ∀ k, k ≤ 1024 → ∀ R' b, rF R k = some (R', b) → ∀ f, f < 32 → -2000000000000000000 ≤ R' f ∧ R' f ≤ 1000000
theorem bd_lo {M : Nat → Int} {L : Int} (hL : 0 ≤ L) (h : Lo L M) {f : Nat} (hf : f < 32) : -L - 1 ≤ bd M f := by
  have a := fs_lt f hf
  have b := ss_lt f hf
  have := h (fs f * 8 + ss f) (by omega)
  unfold bd
  split
  · have := tdiv2_le (M (fs f * 8 + ss f))
    omega
  · omega
theorem doc_nov {l : List Int} (hl : okL l) {n : Nat} {R : Nat → Int} (h : itF (fun f => l.getD f 0) n = some R) : Nov R := by
  have hi := itF_hi (hi_lay hl) n R h
  intro k hk R' b e f hf
  have up : R' f ≤ 1000000 := by
    have := (rF_inv hi k hk R' b e).le f hf
    have := hi f hf
    unfold NB at this
    omega
  refine ⟨?_, up⟩
  cases he : ovE l with
  | true =>
    have hn : n < 4 := by
      rcases Nat.lt_or_ge n 4 with c | c
      · exact c
      · have := itF_none (doc_empty4 hl he) (n - 4)
        rw [show 4 + (n - 4) = n by omega, h] at this
        cases this
    have a := rF_tlo hn (itF_tlo (fun f hf => by
      show -4000 ≤ l.getD f 0
      rcases isB_or (hl.2 f hf) with q | q
      · rw [q]; decide
      · exact q.1) n (by omega) R h) k hk R' b e f hf
    have c := twS_small (m := n * 1024 + k) (by omega) hf
    omega
  | false =>
    have hT := (raw_lay hl).tc he
    obtain ⟨R1, e1, a, hi1⟩ := doc_some hl he n
    have : R1 = R := Option.some.inj (e1.symm.trans h)
    subst this
    obtain ⟨R2, b2, e2, a2, _⟩ := rF_ab hT a hi1 k hk
    have e3 : (R', b) = (R2, b2) := Option.some.inj (e.symm.trans e2)
    cases e3
    have x := a2 f hf
    have hlo : Lo (8000 * 6 ^ 8 + 1) (sharp (lay l 32)) := sharp_lo (fun a _ => (lay_range l 32 hl.2 a).1)
    have y : -(8000 * 6 ^ 8 + 1) - 1 ≤ bd (sharp (lay l 32)) f := bd_lo (by decide) hlo hf
    have z : (8000 * 6 ^ 8 + 1 : Int) = 13436928001 := by decide
    rw [z] at y
    have x' : bd (sharp (lay l 32)) f ≤ R' f := x
    omega

end Go.Proofs.YtffajooegiempaaDoor

namespace Go.Proofs.YtffajooegiempaaDoor
open Go.RowKit
variable {w : World}

/-- Thirty-two numbers as a list. -/
def rl (R : Nat → Int) : List Int := (List.range 32).map R
theorem rl_len (R : Nat → Int) : (rl R).length = 32 := by simp [rl]
theorem rl_get (R : Nat → Int) {i : Nat} (h : i < 32) : (rl R).getD i 0 = R i := by simp [rl, List.getD, h]
theorem rl_set (R : Nat → Int) {n : Nat} (c : Int) : (rl R).set n c = rl (upd R n c) := by
  refine List.ext_getElem (by simp [rl]) fun i h1 h2 => ?_
  rw [List.getElem_set]
  simp only [rl, List.getElem_map, List.getElem_range]
  unfold upd
  by_cases e : n = i
  · rw [if_pos e, if_pos e.symm]
  · rw [if_neg e, if_neg (fun z => e z.symm)]
theorem rl_cell {p : Nat} {R : Nat → Int} {t : TypeId} (h : At w p (ic (rl R)) t) {i : Nat} (hi : i < 32) : w.cell? ⟨p, i, none⟩ = some (.int .i64 (R i)) := by
  rw [h.cell, ic_get _ _ (by rw [rl_len]; exact hi), rl_get R hi]
theorem rF_none {R : Nat → Int} {n : Nat} (h : rF R n = none) : ∀ k, rF R (n + k) = none
  | 0 => h
  | k + 1 => by
    show (match rF R (n + k) with | none => none | some (R', b) => rs1 R' b ((n + k) / 32) ((n + k) % 32)) = none
    rw [rF_none h k]
theorem rF_succ {R R' : Nat → Int} {b : Bool} {f g : Nat} (hg : g < 32) (h : rF R (f * 32 + g) = some (R', b)) : rF R (f * 32 + g + 1) = rs1 R' b f g := by
  rw [rF, h]
  show rs1 R' b ((f * 32 + g) / 32) ((f * 32 + g) % 32) = _
  rw [show (f * 32 + g) / 32 = f by omega, show (f * 32 + g) % 32 = g by omega]
theorem fol_rng {f g : Nat} (hf : f < 32) (hg : g < 32) (c : Int) : (folV (vadd f g) c).1 = -2 ∨ (folV (vadd f g) c).1 = -1 ∨ ∃ m : Nat, m < 32 ∧ (folV (vadd f g) c).1 = (m : Int) := by
  by_cases k1 : kdT f g = 1
  · by_cases e : c < 0
    · rw [(fol1 k1).1 e]; exact .inl rfl
    · rw [(fol1 k1).2 e]; exact .inr (.inl rfl)
  · by_cases k2 : kdT f g = 2
    · rw [fol2 hf hg k2]; exact .inr (.inr ⟨_, nm_lt hf hg (.inl k2), rfl⟩)
    · by_cases k3 : kdT f g = 3
      · rw [fol3 hf hg k3]; exact .inr (.inr ⟨_, nm_lt hf hg (.inr k3), rfl⟩)
      · rw [fol0 k1 k2 k3]; exact .inr (.inl rfl)
def preA (a b : List Int) : Nat → List Int
  | 0 => a
  | j + 1 => (preA a b j).set j (gAt a j + gAt b j)
theorem frm_len : ∀ f : Nat, f < 32 → (frm f).length = 4 := by decide
theorem frm_sgn : ∀ f : Nat, f < 32 → ∀ i, i < 4 → -1 ≤ gAt (frm f) i ∧ gAt (frm f) i ≤ 1 := by decide
theorem preA_4 {f g : Nat} (hf : f < 32) : preA (frm f) (frm g) 4 = vadd f g := by
  obtain ⟨a, b, c, d, e⟩ := four_of (frm_len f hf)
  unfold vadd
  rw [e]
  rfl
theorem preA_at {a b : List Int} (h : a.length = 4) {j : Nat} (hj : j < 4) : (preA a b j).length = 4 ∧ (preA a b j).getD j 0 = gAt a j := by
  obtain ⟨x, y, z, t, rfl⟩ := four_of h
  rcases (show j = 0 ∨ j = 1 ∨ j = 2 ∨ j = 3 by omega) with rfl | rfl | rfl | rfl <;> exact ⟨rfl, rfl⟩
theorem r_form (f : Nat) (hf : f < 32) : Calls Tryd.prog 82 #[.int .i64 (f : Int)] w fun e w' => e = .returned (.slice (some ⟨w.heap.size, 0, none⟩) 4 4) ∧ Hid (At w' w.heap.size (ic (frm f)) tNk ∧ Below w.heap.size w w') := by
  by_cases h8 : f < 8
  · exact k_form_lo f h8
  · exact k_form_hi f hf (by omega)
theorem vadd_ok : ∀ f : Nat, f < 32 → ∀ g, g < 32 → ∀ i, i < 4 → -2 ≤ gAt (vadd f g) i ∧ gAt (vadd f g) i ≤ 2 := by decide +kernel

/-- What a round leaves. -/
def RPost (p : Nat) (w : World) (R : Nat → Int) (e : Ending) (w' : World) : Prop :=
  Onl p w w' ∧ match rnd R with
    | none => e = .returned (.tuple #[.bool false, .bool false])
    | some (R', b) => e = .returned (.tuple #[.bool true, .bool b]) ∧ At w' p (ic (rl R')) tNk
theorem RPost.no {p : Nat} {w w' : World} {R : Nat → Int} {e : Ending} {k : Nat} (hk : k ≤ 1024) (h : rF R k = none) (ho : Onl p w w') (he : e = .returned (.tuple #[.bool false, .bool false])) : RPost p w R e w' := by
  have : rnd R = none := by
    have := rF_none h (1024 - k)
    rw [show k + (1024 - k) = 1024 by omega] at this
    exact this
  unfold RPost
  rw [this]
  exact ⟨ho, he⟩
theorem RPost.yes {p : Nat} {w w' : World} {R R' : Nat → Int} {b : Bool} {e : Ending} (h : rF R 1024 = some (R', b)) (ho : Onl p w w') (he : e = .returned (.tuple #[.bool true, .bool b])) (ha : At w' p (ic (rl R')) tNk) : RPost p w R e w' := by
  unfold RPost
  rw [show rnd R = some (R', b) from h]
  exact ⟨ho, he, ha⟩

set_option maxRecDepth 100000 in
set_option maxHeartbeats 3200000 in
theorem r_round (p : Nat) (R : Nat → Int) (h : At w p (ic (rl R)) tNk) (hN : Nov R) :
    Calls Tryd.prog 51 #[.slice (some ⟨p, 0, none⟩) 32 32] w (RPost p w R) := by
  have HA0 : Hid (At w p (ic (rl R)) tNk) := h
  have HN : Hid (Nov R) := hN
  clear h hN
  go_enter Tryd.func51, Tryd.ntmps51
  go_wp2_with fail
  go_loopw [4, 5] (fun mv fv wr => ∃ (f : Nat) (b : Bool) (R' : Nat → Int), f ≤ 32 ∧ fv = .int .i64 f ∧ mv = .bool b ∧ Hid (rF R (f * 32) = some (R', b) ∧ At wr p (ic (rl R')) tNk ∧ Onl p w wr)) (fun _ fv _ => 32 - (intOf fv).toNat)
  case atStart => exact ⟨0, false, R, by omega, rfl, rfl, rfl, HA0.out, Onl.refl _ _⟩
  case round =>
    obtain ⟨f, b0, R0, hf, rfl, rfl, HR⟩ := hrel
    by_cases hlt : f < 32
    · have hfi : (f : Int) < 32 := by omega
      obtain ⟨w4, rfl⟩ : ∃ w4, w4 = wr := ⟨_, rfl⟩
      go_wp2_with fail
      go_loopw [4, 6] (fun mv gv wr => ∃ (g : Nat) (b : Bool) (R' : Nat → Int), g ≤ 32 ∧ gv = .int .i64 g ∧ mv = .bool b ∧ Hid (rF R (f * 32 + g) = some (R', b) ∧ At wr p (ic (rl R')) tNk ∧ Onl p w wr)) (fun _ gv _ => 32 - (intOf gv).toNat)
      case atStart => exact ⟨0, b0, R0, by omega, rfl, rfl, HR.out⟩
      case round =>
        obtain ⟨g, b, R', hg, rfl, rfl, HQ⟩ := hrel
        clear HR
        by_cases hlg : g < 32
        · have hgi : (g : Int) < 32 := by omega
          obtain ⟨w5, rfl⟩ : ∃ w5, w5 = wr := ⟨_, rfl⟩
          have cx := rl_cell HQ.out.2.1 hlt
          have cy := rl_cell HQ.out.2.1 hlg
          have hxb := HN.out (f * 32 + g) (by omega) R' b HQ.out.1 f hlt
          have hyb := HN.out (f * 32 + g) (by omega) R' b HQ.out.1 g hlg
          have HS : Hid (rF R (f * 32 + g + 1) = rs1 R' b f g) := rF_succ hlg HQ.out.1
          have HS1 : Hid (rs1 R' b f g = if R' f = NB ∨ R' g = NB then some (R', b) else if (folV (vadd f g) (R' f + R' g)).1 = -2 then none else if 0 ≤ (folV (vadd f g) (R' f + R' g)).1 ∧ (folV (vadd f g) (R' f + R' g)).2 < R' (folV (vadd f g) (R' f + R' g)).1.toNat then some (upd R' (folV (vadd f g) (R' f + R' g)).1.toNat (folV (vadd f g) (R' f + R' g)).2, true) else some (R', b)) := rfl
          have HFw : Hid (∀ (w1 : World) (B : Nat), At w1 B (ic (vadd f g)) tNk → Calls Tryd.prog 83 #[.slice (some ⟨B, 0, none⟩) 4 4, .int .i64 (R' f + R' g)] w1 fun e w' => e = .returned (.tuple #[.int .i64 (folV (vadd f g) (R' f + R' g)).1, .int .i64 (folV (vadd f g) (R' f + R' g)).2]) ∧ Below w1.heap.size w1 w') := fun w1 B h1 => r_follow _ _ rfl (Reads.at_ h1 rfl (Nat.le_refl _) (fun i hi => ic_get _ _ hi)) (vadd_ok f hlt g hlg) _ ⟨by omega, by omega⟩
          have HRg : Hid (_ ∨ _) := fol_rng hlt hlg (R' f + R' g)
          obtain ⟨x, hx⟩ : ∃ x, x = R' f := ⟨_, rfl⟩
          obtain ⟨y, hy⟩ : ∃ y, y = R' g := ⟨_, rfl⟩
          have HXY : Hid (x = R' f ∧ y = R' g) := ⟨hx, hy⟩
          rw [← hx] at cx hxb HS1 HFw HRg
          rw [← hy] at cy hyb HS1 HFw HRg
          clear hx hy
          by_cases ex : x = NB
          · have b1 : (x == 1000000) = true := by rw [ex]; rfl
            have HE : Hid (rs1 R' b f g = some (R', b)) := HS1.out.trans (if_pos (.inl ex))
            clear HS1 ex
            go_wp2_with fail
            go_roundw
            case rel => exact ⟨g + 1, b, R', by omega, by go_num, rfl, by rw [← Nat.add_assoc]; exact HS.out.trans HE.out, HQ.out.2.1, HQ.out.2.2⟩
            case measure => simp [intOf]; omega
          · have b1 : (x == 1000000) = false := by rw [beq_eq_false_iff_ne]; exact ex
            by_cases ey : y = NB
            · have b2 : (y == 1000000) = true := by rw [ey]; rfl
              have HE : Hid (rs1 R' b f g = some (R', b)) := HS1.out.trans (if_pos (.inr ey))
              clear HS1 ex ey
              go_wp2_with fail
              go_roundw
              case rel => exact ⟨g + 1, b, R', by omega, by go_num, rfl, by rw [← Nat.add_assoc]; exact HS.out.trans HE.out, HQ.out.2.1, HQ.out.2.2⟩
              case measure => simp [intOf]; omega
            · have b2 : (y == 1000000) = false := by rw [beq_eq_false_iff_ne]; exact ey
              have HE : Hid (rs1 R' b f g = _) := HS1.out.trans (if_neg (fun z => z.elim ex ey))
              have hfo := r_form (w := w5) f hlt
              clear HS1 ex ey
              go_wp2_with fail
              refine hfo.mono ?_
              rintro e w6 ⟨rfl, H6⟩
              have hgo := r_form (w := w6) g hlg
              go_wp2_with fail
              refine hgo.mono ?_
              rintro e w7 ⟨rfl, H7⟩
              have hp5 : p < w5.heap.size := HQ.out.2.1.lt
              have hw5 : w.heap.size ≤ w5.heap.size := HQ.out.2.2.size
              have hs6 : w5.heap.size < w6.heap.size := H6.out.1.lt
              have hs7 : w6.heap.size < w7.heap.size := H7.out.1.lt
              have HA7 : Hid (At w7 w5.heap.size (ic (preA (frm f) (frm g) 0)) tNk ∧ At w7 w6.heap.size (ic (frm g)) tNk ∧ At w7 p (ic (rl R')) tNk ∧ Onl p w w7 ∧ w6.heap.size < w7.heap.size) := ⟨H6.out.1.keep H7.out.2 hs6, H7.out.1, (HQ.out.2.1.keep H6.out.2 hp5).keep H7.out.2 (by omega), (HQ.out.2.2.trans (Onl.of H6.out.2 p)).trans (Onl.of H7.out.2 p), hs7⟩
              have HPa : Hid (preA (frm f) (frm g) 4 = vadd f g ∧ (frm f).length = 4 ∧ (frm g).length = 4) := ⟨preA_4 hlt, frm_len f hlt, frm_len g hlg⟩
              have HFb : Hid (∀ i, i < 4 → (-1 ≤ gAt (frm f) i ∧ gAt (frm f) i ≤ 1) ∧ (-1 ≤ gAt (frm g) i ∧ gAt (frm g) i ≤ 1)) := fun i hi => ⟨frm_sgn f hlt i hi, frm_sgn g hlg i hi⟩
              generalize frm f = vf at *
              generalize frm g = vg at *
              generalize w5.heap.size = B1 at *
              generalize w6.heap.size = B2 at *
              clear hfo hgo H6 H7
              go_wp2_with fail
              go_loopw [9] (fun i wx => ∃ (j : Nat), j ≤ 4 ∧ i = .int .i64 j ∧ Hid (At wx B1 (ic (preA vf vg j)) tNk ∧ At wx B2 (ic vg) tNk ∧ At wx p (ic (rl R')) tNk ∧ Onl p w wx ∧ B2 < wx.heap.size)) (fun i _ => 4 - (intOf i).toNat)
              case atStart => exact ⟨0, by omega, rfl, HA7.out⟩
              case round =>
                obtain ⟨j, hj, rfl, HT⟩ := hrel
                by_cases hlj : j < 4
                · have hji : (j : Int) < 4 := by omega
                  obtain ⟨w8, rfl⟩ : ∃ w8, w8 = wr := ⟨_, rfl⟩
                  have ca : w8.cell? ⟨B1, j, none⟩ = some (.int .i64 (gAt vf j)) := by
                    have q := preA_at (b := vg) HPa.out.2.1 hlj
                    rw [HT.out.1.cell, ic_get _ _ (by omega), q.2]
                  have cb : w8.cell? ⟨B2, j, none⟩ = some (.int .i64 (gAt vg j)) := by
                    rw [HT.out.2.1.cell, ic_get _ _ (by rw [HPa.out.2.2]; exact hlj)]; rfl
                  have cf := HT.out.1.free
                  have hl1 := HT.out.1.lt
                  have hl2 := HT.out.2.1.lt
                  have hr := HFb.out j hlj
                  have HP : Hid (preA vf vg (j + 1) = (preA vf vg j).set j (gAt vf j + gAt vg j)) := rfl
                  have hB1p : B1 ≠ p := by omega
                  have hB1q : B1 ≠ B2 := by omega
                  generalize gAt vf j = a at *
                  generalize gAt vg j = c at *
                  go_wp2_with fail
                  go_region
                  all_goals
                    go_wp2_with fail
                    go_roundw
                    case rel =>
                      refine ⟨j + 1, by omega, by go_num, ?_, ?_, ?_, ?_, ?_⟩
                      · rw [HP.out, ← ic_set]
                        exact At.drewN (HT.out.1.put j _) 1
                      · exact At.drewN (HT.out.2.1.other _ _ (fun z => hB1q z.symm)) 1
                      · exact At.drewN (HT.out.2.2.1.other _ _ (fun z => hB1p z.symm)) 1
                      · exact (HT.out.2.2.2.1.own (.inr (by omega)) _ _).drewN 1
                      · have := HT.out.2.2.2.2
                        simpa [World.setCell] using this
                    case measure => simp [intOf]; omega
                · have hj4 : j = 4 := by omega
                  subst hj4
                  obtain ⟨w8, rfl⟩ : ∃ w8, w8 = wr := ⟨_, rfl⟩
                  have cx8 := rl_cell HT.out.2.2.1 hlt
                  have cy8 := rl_cell HT.out.2.2.1 hlg
                  rw [← HXY.out.1] at cx8
                  rw [← HXY.out.2] at cy8
                  have HA8 : Hid (At w8 B1 (ic (vadd f g)) tNk) := by
                    show At w8 B1 (ic (vadd f g)) tNk
                    rw [← HPa.out.1]; exact HT.out.1
                  have hw8 : p < w8.heap.size := HT.out.2.2.1.lt
                  have HO8 : Hid (Onl p w w8 ∧ At w8 p (ic (rl R')) tNk) := ⟨HT.out.2.2.2.1, HT.out.2.2.1⟩
                  generalize folV (vadd f g) (x + y) = fv at *
                  obtain ⟨n, c⟩ := fv
                  simp only at HE HFw HRg
                  have HFd := HFw.out w8.drew B1 HA8.out
                  have hsum : IntKind.i64.wrap (x + y) = x + y := by rw [IntKind.wrap_i64]; omega
                  clear HFw HA8 HT HPa HFb HA7 HQ HXY hs6 hs7 hp5 hw5 cx cy
                  rcases HRg.out with e | e | ⟨m, hm, e⟩
                  · subst e
                    have HE2 : Hid (rs1 R' b f g = none) := HE.out.trans (if_pos rfl)
                    clear HE
                    go_wp2_with fail
                    go_region_with (go_at_call 83; refine HFd.mono ?_; rintro e w9 ⟨rfl, hb9⟩)
                    all_goals
                      have HA9 : Hid (At w9 p (ic (rl R')) tNk) := At.keep (w := w8.drewN 1) HO8.out.2 hb9 hw8
                      have HO9 : Hid (Onl p w w9) := (HO8.out.1.drewN 1).trans (Onl.of hb9 p)
                      clear hb9
                      go_wp2_with fail
                      go_ret2
                      exact RPost.no (k := f * 32 + g + 1) (by omega) (HS.out.trans HE2.out) HO9.out rfl
                  · subst e
                    have HE2 : Hid (rs1 R' b f g = some (R', b)) := HE.out.trans ((if_neg (by decide)).trans (if_neg (fun z => absurd z.1 (by decide))))
                    clear HE
                    go_wp2_with fail
                    go_region_with (go_at_call 83; refine HFd.mono ?_; rintro e w9 ⟨rfl, hb9⟩)
                    all_goals
                      have HA9 : Hid (At w9 p (ic (rl R')) tNk) := At.keep (w := w8.drewN 1) HO8.out.2 hb9 hw8
                      have HO9 : Hid (Onl p w w9) := (HO8.out.1.drewN 1).trans (Onl.of hb9 p)
                      clear hb9
                      go_wp2_with fail
                      go_roundw
                      case rel => exact ⟨g + 1, b, R', by omega, by go_num, rfl, by rw [← Nat.add_assoc]; exact HS.out.trans HE2.out, HA9.out, HO9.out⟩
                      case measure => simp [intOf]; omega
                  · subst e
                    have hm0 : ((m : Int) == -2) = false := by rw [beq_eq_false_iff_ne]; omega
                    have hmi : (m : Int) < 32 := by omega
                    by_cases hc : c < R' m
                    · have HE2 : Hid (rs1 R' b f g = some (upd R' m c, true)) := HE.out.trans ((if_neg (by omega)).trans ((if_pos ⟨by omega, by rw [Int.toNat_natCast]; exact hc⟩).trans (by rw [Int.toNat_natCast])))
                      clear HE
                      go_wp2_with fail
                      go_region_with (go_at_call 83; refine HFd.mono ?_; rintro e w9 ⟨rfl, hb9⟩)
                      all_goals
                        have HA9 : Hid (At w9 p (ic (rl R')) tNk) := At.keep (w := w8.drewN 1) HO8.out.2 hb9 hw8
                        have HO9 : Hid (Onl p w w9) := (HO8.out.1.drewN 1).trans (Onl.of hb9 p)
                        clear hb9
                        have cm := rl_cell HA9.out hm
                        have cf9 := HA9.out.free
                        have hl9 := HA9.out.lt
                        go_wp2_with fail
                        go_roundw
                        case rel =>
                          refine ⟨g + 1, true, upd R' m c, by omega, by go_num, rfl, by rw [← Nat.add_assoc]; exact HS.out.trans HE2.out, ?_, HO9.out.setCell _ _⟩
                          rw [← rl_set, ← ic_set]
                          exact HA9.out.put m _
                        case measure => simp [intOf]; omega
                    · have HE2 : Hid (rs1 R' b f g = some (R', b)) := HE.out.trans ((if_neg (by omega)).trans (if_neg (fun z => by rw [Int.toNat_natCast] at z; exact hc z.2)))
                      clear HE
                      go_wp2_with fail
                      go_region_with (go_at_call 83; refine HFd.mono ?_; rintro e w9 ⟨rfl, hb9⟩)
                      all_goals
                        have HA9 : Hid (At w9 p (ic (rl R')) tNk) := At.keep (w := w8.drewN 1) HO8.out.2 hb9 hw8
                        have HO9 : Hid (Onl p w w9) := (HO8.out.1.drewN 1).trans (Onl.of hb9 p)
                        clear hb9
                        have cm := rl_cell HA9.out hm
                        go_wp2_with fail
                        go_roundw
                        case rel => exact ⟨g + 1, b, R', by omega, by go_num, rfl, by rw [← Nat.add_assoc]; exact HS.out.trans HE2.out, HA9.out, HO9.out⟩
                        case measure => simp [intOf]; omega
        · have hg32 : g = 32 := by omega
          subst hg32
          go_wp2_with fail
          go_roundw
          case rel => exact ⟨f + 1, b, R', by omega, by go_num, rfl, by rw [show (f + 1) * 32 = f * 32 + 32 by omega]; exact HQ.out.1, HQ.out.2⟩
          case measure => simp [intOf]; omega
    · have hf32 : f = 32 := by omega
      subst hf32
      go_wp2_with fail
      go_ret2
      exact RPost.yes HR.out.1 HR.out.2.2 rfl HR.out.2.1

end Go.Proofs.YtffajooegiempaaDoor



namespace Go.Proofs.YtffajooegiempaaDoor
open Go.RowKit

abbrev tN : TypeId := 3

set_option maxRecDepth 100000 in
set_option maxHeartbeats 800000 in
theorem l_mark (w : World) (g n cap : Nat) (c : Array Value) (v : Int) (h : At w g c tN) (hs : c.size = cap) (_hn : n ≤ cap) (hm : cap ≤ 1073741824) (hv0 : 0 ≤ v) (hv1 : v ≤ 4398046511104) :
    Calls Tryd.prog 52 #[.slice (some ⟨g, 0, none⟩) n cap, .int .i64 v] w fun e w' => e = .returned (.tuple #[]) ∧ Below g w w' ∧ ∃ c', At w' g c' tN ∧ c'.size = cap ∧ ∀ i, i < cap → c'[i]? = some (.int .i64 (v + i)) := by
  have HA : Hid (At w g c tN) := h
  have HS : Hid (c.size = cap) := hs
  have hg := h.lt
  clear h hs
  go_enter Tryd.func52, Tryd.ntmps52
  go_wp2_with fail
  go_loopw [5] (fun i wr => ∃ (j : Nat) (c' : Array Value), j ≤ cap ∧ i = .int .i64 j ∧ At wr g c' tN ∧ c'.size = cap ∧ (∀ i, i < j → c'[i]? = some (.int .i64 (v + i))) ∧ Below g w wr) (fun i _ => cap - (intOf i).toNat)
  case atStart => exact ⟨0, c, Nat.zero_le _, rfl, HA.out, HS.out, fun i hi => absurd hi (by omega), Below.refl _ _⟩
  case round =>
    obtain ⟨j, c', hj, rfl, hat, hsz, hall, hbel⟩ := hrel
    have HA' : Hid (At wr g c' tN) := hat
    have HS' : Hid (c'.size = cap) := hsz
    have HL : Hid (∀ i, i < j → c'[i]? = some (.int .i64 (v + i))) := hall
    have HB : Hid (Below g w wr) := hbel
    by_cases hlt : j < cap
    · have hji : (j : Int) < (cap : Int) := by omega
      obtain ⟨x, c1⟩ : ∃ x, wr.cell? ⟨g, j, none⟩ = some x := ⟨c'[j]'(by omega), by rw [hat.cell]; simp [hsz, hlt]⟩
      have f1 : wr.frozen? ⟨g, j, none⟩ = false := hat.free j
      clear hat hsz hall hbel
      go_wp2_with fail
      go_roundw
      case rel =>
        refine ⟨j + 1, _, by omega, by go_num, HA'.out.put j (.int .i64 (v + j)), by simp [HS'.out], fun i hi => ?_, HB.out.setCell (Nat.le_refl _) _⟩
        have := HS'.out
        by_cases e : i = j
        · subst e; simp [this, hlt]
        · simp [Ne.symm e]; exact HL.out i (by omega)
      case measure => simp [intOf]; omega
    · have hji : ¬ (j : Int) < (cap : Int) := by omega
      have hje : j = cap := by omega
      clear hat hsz hall hbel
      go_wp2_with fail
      go_end0
      exact ⟨rfl, HB.out, c', HA'.out, HS'.out, by rw [← hje]; exact HL.out⟩

set_option maxRecDepth 100000 in
set_option maxHeartbeats 800000 in
theorem l_marked (w : World) (g n cap : Nat) (v : Int) (_hg : g < w.heap.size) (_hn : n ≤ cap) (hm : cap ≤ 1073741824) (hv0 : 0 ≤ v) (hv1 : v ≤ 4398046511104) (h : ∀ i : Nat, i < cap → w.cell? ⟨g, i, none⟩ = some (.int .i64 (v + i))) :
    Calls Tryd.prog 53 #[.slice (some ⟨g, 0, none⟩) n cap, .int .i64 v] w fun e w' => e = .returned (.bool true) ∧ w' = w := by
  have HA : Hid (∀ i : Nat, i < cap → w.cell? ⟨g, i, none⟩ = some (.int .i64 (v + i))) := h
  clear h
  go_enter Tryd.func53, Tryd.ntmps53
  go_wp2_with fail
  go_loop [6] (fun i => ∃ (j : Nat), j ≤ cap ∧ i = .int .i64 j) (fun i => cap - (intOf i).toNat)
  case atStart => exact ⟨0, Nat.zero_le _, rfl⟩
  case round =>
    obtain ⟨j, hj, rfl⟩ := hrel
    by_cases hlt : j < cap
    · have hji : (j : Int) < (cap : Int) := by omega
      have c1 := HA.out j hlt
      go_wp2_with fail
      go_round
      case rel => exact ⟨j + 1, by omega, by go_num⟩
      case measure => simp [intOf]; omega
    · have hji : ¬ (j : Int) < (cap : Int) := by omega
      go_wp2_with fail
      go_ret
      exact ⟨rfl, rfl⟩

set_option maxRecDepth 100000 in
set_option maxHeartbeats 800000 in
theorem l_mine (w : World) (g n cap : Nat) (c : Array Value) (h : At w g c tN) (hs : c.size = cap) (hn : n ≤ cap) (hm : cap ≤ 1073741824) :
    Calls Tryd.prog 28 #[.slice (some ⟨g, 0, none⟩) n cap] w fun e w' => e = .returned (.bool true) ∧ Below g w w' := by
  have h1 := l_mark w g n cap c 1099511627776 h hs hn hm (by omega) (by omega)
  clear h hs
  go_enter Tryd.func28, Tryd.ntmps28
  go_wp2_with fail
  refine h1.mono ?_
  rintro e w1 ⟨rfl, hb, c', hat, hsz, hall⟩
  have h2 := l_marked w1 g n cap 1099511627776 hat.lt hn hm (by omega) (by omega) (fun i hi => by rw [hat.cell]; exact hall i hi)
  clear hat hsz hall h1
  go_wp2_with fail
  refine h2.mono ?_
  rintro e w2 ⟨rfl, rfl⟩
  go_wp2_with fail
  go_ret
  exact ⟨rfl, hb⟩

set_option maxRecDepth 100000 in
set_option maxHeartbeats 800000 in
theorem l_mine_nil (w : World) : Calls Tryd.prog 28 #[.slice none 0 0] w fun e w' => e = .returned (.bool true) ∧ w' = w := by
  have h1 : ∀ w, Calls Tryd.prog 52 #[.slice none 0 0, .int .i64 1099511627776] w fun e w' => e = .returned (.tuple #[]) ∧ w' = w := by
    intro w
    go_enter Tryd.func52, Tryd.ntmps52
    go_wp2_with fail
    go_loop [5] (fun i => i = .int .i64 0) (fun _ => 0)
    case atStart => rfl
    case round =>
      subst hrel
      go_wp2_with fail
      go_end0
      exact ⟨rfl, rfl⟩
  have h2 : ∀ w, Calls Tryd.prog 53 #[.slice none 0 0, .int .i64 1099511627776] w fun e w' => e = .returned (.bool true) ∧ w' = w := by
    intro w
    go_enter Tryd.func53, Tryd.ntmps53
    go_wp2_with fail
    go_loop [6] (fun i => i = .int .i64 0) (fun _ => 0)
    case atStart => rfl
    case round =>
      subst hrel
      go_wp2_with fail
      go_ret
      exact ⟨rfl, rfl⟩
  go_enter Tryd.func28, Tryd.ntmps28
  go_wp2_with fail
  refine (h1 _).mono ?_
  rintro e w1 ⟨rfl, rfl⟩
  go_wp2_with fail
  refine (h2 _).mono ?_
  rintro e w1 ⟨rfl, rfl⟩
  go_wp2_with fail
  go_ret
  exact ⟨rfl, rfl⟩

end Go.Proofs.YtffajooegiempaaDoor

