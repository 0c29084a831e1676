/- The table and the statements' walks together. -/
import Derived.Test.YtlgjcjcbleiioaaDoorOpcTab
import Derived.Test.YtlgjcjcbleiioaaDoorOpcLawThree
